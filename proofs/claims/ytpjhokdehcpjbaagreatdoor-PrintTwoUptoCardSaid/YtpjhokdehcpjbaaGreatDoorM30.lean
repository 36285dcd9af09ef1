/-
  WHAT IS PROVED HERE: a part of the proof (made narrower and merged by program; the parts: Jp Jq).
-/
import Derived.Test.YtpjhokdehcpjbaaGreatDoorRows
import Derived.WalkKit
import Derived.Lib.Hide
import Derived.WalkSpells
import Derived.WalkLawsBesides
import Derived.Laws.EntriesVeiled
import Derived.Shelf.Abstract
import Derived.Deep.CutRange
import Derived.Deep.RegionHeld3
import Derived.Test.YtpjhokdehcpjbaaGreatDoorM27
namespace Go.Proofs.YtpjhokdehcpjbaaGreatDoor
open Go.RowKit
theorem eqAll_dec {α:Type} (f:α → α → Bool) (l r:List α):eqAll f l r = (decide (l.length = r.length) && eqAll f l r):=by
 by_cases h:l.length = r.length
 ·rw [decide_eq_true h,Bool.true_and]
 ·rw [eqAll_length f l r h,Bool.and_false]
theorem rsame_names (A B:Sl ByteArray) (w:World) (hA:A.In w 1 strCells strOk) (hB:B.In w 1 strCells strOk) (bA:A.size strSize ≤ 1048576):Kp Tryz.prog w 58 #[A.v,B.v] (.bool (eqAll eqStr A.l B.l)) :=
 Kp.ofPure fun y=>ref_SameNames A B _ (hA.plus (fun _ a=>a) y) (hB.plus (fun _ a=>a) y) bA
theorem rsame_lits (A B:Sl Lt) (w:World) (hA:A.In w 3 Lt.cells Lt.Ok) (hB:B.In w 3 Lt.cells Lt.Ok) (bA:A.size (fun _=>1) ≤ 1048576):Kp Tryz.prog w 133 #[A.v,B.v] (.bool (eqAll eqLt A.l B.l)) :=
 Kp.ofPure fun y=>ref_SameLits A B _ (hA.plus (fun _ a=>a) y) (hB.plus (fun _ a=>a) y) bA
theorem rsame_fields (A B:Sl Fd) (w:World) (hA:A.In w 2 Fd.cells (Fd.In w)) (hB:B.In w 2 Fd.cells (Fd.In w)) (bA:A.size Fd.sz ≤ 1048576):Kp Tryz.prog w 54 #[A.v,B.v] (.bool (eqAll eqFd A.l B.l)) :=
 Kp.ofPure fun y=>ref_SameFields A B _ (hA.plus (fun _ a=>a.plus y) y) (hB.plus (fun _ a=>a.plus y) y) bA
theorem rsame_exprs (A B:Sl Ex) (w:World) (hA:A.In w 9 Ex.cells (Ex.In w)) (hB:B.In w 9 Ex.cells (Ex.In w)) (bA:A.size Ex.wt ≤ 1048576) (bB:B.size Ex.wt ≤ 1048576):Kp Tryz.prog w 59 #[A.v,B.v] (.bool (eqAll Ex.same A.l B.l)) :=
 Kp.ofPure fun y=>by rw [← Ex.sames_eq];exact same_exprs A B _ (hA.plus (fun _ a=>a.plus y) y) (hB.plus (fun _ a=>a.plus y) y) bA bB
theorem rsame_expr (a b:Ex) (w:World) (ha:a.In w) (hb:b.In w) (sa:a.wt ≤ 1048576) (sb:b.wt ≤ 1048576):Kp Tryz.prog w 19 #[a.val,b.val] (.bool (a.same b)) :=
 Kp.ofPure fun y=>same_expr_at a b _ (ha.plus y) (hb.plus y) sa sb
theorem rsame_stmts (A B:Sl St) (w:World) (hA:A.In w 14 St.cells (St.In w)) (hB:B.In w 14 St.cells (St.In w)) (bA:A.size St.sz ≤ 1048576) (bB:B.size St.sz ≤ 1048576):Kp Tryz.prog w 56 #[A.v,B.v] (.bool (St.sames A.l B.l)) :=
 Kp.ofPure fun y=>same_stmts A B _ (hA.plus (fun _ a=>a.plus y) y) (hB.plus (fun _ a=>a.plus y) y) bA bB
set_option maxRecDepth 100000 in
set_option maxHeartbeats 8000000 in
theorem rsame_table (a b:Ta) (w:World) (ha:a.In w) (hb:b.In w) (sa:a.sz ≤ 1048576) (sb:b.sz ≤ 1048576):Kp Tryz.prog w 57 #[.agg a.cells.toArray,.agg b.cells.toArray] (.bool (eqTa a b)):=by
 intro y0
 have ha:=ha.plus y0
 have hb:=hb.plus y0
 obtain ⟨V,hV⟩:∃ V,plus w y0 = V:=⟨_,rfl⟩
 rw [hV] at ha hb ⊢
 clear hV
 unfold Ta.sz Cl.sz at sa sb
 have za:a.keys.size Ke.sz ≤ 1048576:=by omega
 have zb:b.keys.size Ke.sz ≤ 1048576:=by omega
 have bkn:a.keys.l.length ≤ 1048576:=len_le Ke.sz sz_pos_ke _ za
 have c0:=rsame_names a.actions b.actions V ha.actions hb.actions (by omega)
 have c1:=rsame_lits a.dflt.args b.dflt.args V ha.dflt.args hb.dflt.args (by omega)
 have ck:=fun x (hx:x ∈ a.keys.l) y (hy:y ∈ b.keys.l)=>rsame_expr (Ke.e x) (Ke.e y) V (ha.keys.kids x hx).e (hb.keys.kids y hy).e (by have:=one_sz za hx;unfold Ke.sz at this;omega) (by have:=one_sz zb hy;unfold Ke.sz at this;omega)
 have rk:=ha.keys.row
 have rl:=hb.keys.row
 obtain ⟨nm,⟨kp,kc,kl⟩,⟨ap,ac,al⟩,⟨dn,⟨gp,gc,gl⟩⟩⟩:=a
 obtain ⟨nm2,⟨kp2,kc2,kl2⟩,⟨ap2,ac2,al2⟩,⟨dn2,⟨gp2,gc2,gl2⟩⟩⟩:=b
 simp only [Sl.v] at bkn c0 c1 ck rk rl
 clear ha hb sa sb za zb
 have hT:eqTa ⟨nm,⟨kp,kc,kl⟩,⟨ap,ac,al⟩,⟨dn,⟨gp,gc,gl⟩⟩⟩ ⟨nm2,⟨kp2,kc2,kl2⟩,⟨ap2,ac2,al2⟩,⟨dn2,⟨gp2,gc2,gl2⟩⟩⟩ = (((nm.toList == nm2.toList) && (decide (kl.length = kl2.length) && (eqAll eqStr al al2 && ((dn.toList == dn2.toList) && eqAll eqLt gl gl2)))) && eqAll eqKe kl kl2):=by
  simp only [eqTa,eqStr]
  rw [eqAll_dec eqKe]
  ac_rfl
 rw [hT]
 clear hT
 show Calls Tryz.prog 57 #[.agg #[.string nm,.slice kp kl.length kc,.slice ap al.length ac,.string dn,.slice gp gl.length gc],.agg #[.string nm2,.slice kp2 kl2.length kc2,.slice ap2 al2.length ac2,.string dn2,.slice gp2 gl2.length gc2]] V _
 generalize eqAll eqStr al al2 = s0 at c0 ⊢
 generalize eqAll eqLt gl gl2 = s1 at c1 ⊢
 obtain ⟨kn,hkn⟩:∃ n,kl.length = n:=⟨_,rfl⟩
 obtain ⟨kn2,hkn2⟩:∃ n,kl2.length = n:=⟨_,rfl⟩
 rw [hkn] at bkn ⊢
 rw [hkn2]
 obtain ⟨A,hA⟩:∃ A,eqAll eqKe kl kl2 = A:=⟨_,rfl⟩
 obtain ⟨G,hG⟩:∃ A,((nm.toList == nm2.toList) && (decide (kn = kn2) && (s0 && ((dn.toList == dn2.toList) && s1)))) = A:=⟨_,rfl⟩
 obtain ⟨R,hR⟩:∃ B,(G && A) = B:=⟨_,rfl⟩
 obtain ⟨C,hC⟩:∃ A,(!G) = A:=⟨_,rfl⟩
 rw [hA,hG,hR]
 have bkn':=Lib.hid bkn
 have c0':=Lib.hid c0
 have c1':=Lib.hid c1
 have ck':=Lib.hid ck
 have rk':=Lib.hid rk
 have rl':=Lib.hid rl
 have hkn':=Lib.hid hkn
 have hkn2':=Lib.hid hkn2
 have hA':=Lib.hid hA
 have hG':=Lib.hid hG
 have hR':=Lib.hid hR
 have hC':=Lib.hid hC
 clear bkn c0 c1 ck rk rl hkn hkn2 hA hG hR hC
 go_enter Tryz.func57,Tryz.ntmps57
 go_upto_region 1 with (fail)
 obtain ⟨W,yy,hW,⟨z,hz⟩,cb0,cb1⟩:=box2n V _ _ 84 84
 rw [hW]
 have e0_0:=cb0 0 _ rfl
 have e0_1:=cb0 1 _ rfl
 have e0_2:=cb0 2 _ rfl
 have e0_3:=cb0 3 _ rfl
 have e0_4:=cb0 4 _ rfl
 have e1_0:=cb1 0 _ rfl
 have e1_1:=cb1 1 _ rfl
 have e1_2:=cb1 2 _ rfl
 have e1_3:=cb1 3 _ rfl
 have e1_4:=cb1 4 _ rfl
 have q0c:=Lib.hid (kp_at hz c0'.out)
 have q1c:=Lib.hid (kp_at hz c1'.out)
 have hz':=Lib.hid hz
 clear hW hz cb0 cb1 c0' c1'
 go_cut [46] from 6 to 46 (fun v wx=>v = .bool C ∧ ∃ y,wx = plus W y)
 case first =>
  by_cases q0:(nm.toList == nm2.toList) = true
  case pos =>
   by_cases q1:kn = kn2
   case neg =>
    have q1x:((kn:Int) != (kn2:Int)) = true:=by simp;omega
    have hF:=Lib.hid (show (true) = C by rw [← hC'.out,← hG'.out];simp [q0,q1])
    go_wp2_with (fail)
    go_meet
    first | exact ⟨congrArg Value.bool hF.out,_,rfl⟩ | exact ⟨congrArg Value.bool (Eq.trans (by simp [q0,q1]) hF.out),_,rfl⟩
   case pos =>
    subst q1
    cases s0
    case false =>
     have hF:=Lib.hid (show (true) = C by rw [← hC'.out,← hG'.out];simp [q0])
     go_wp2_with (first | (go_at_call 58;with_reducible refine (q0c.out _).mono ?_;rintro r w' ⟨rfl,x,rfl⟩))
     go_meet
     first | exact ⟨congrArg Value.bool hF.out,_,rfl⟩ | exact ⟨congrArg Value.bool (Eq.trans (by simp [q0]) hF.out),_,rfl⟩
    case true =>
     by_cases q3:(dn.toList == dn2.toList) = true
     case pos =>
      cases s1
      case false =>
       have hF:=Lib.hid (show (true) = C by rw [← hC'.out,← hG'.out];simp [q0,q3])
       go_wp2_with (first | (go_at_call 58;with_reducible refine (q0c.out _).mono ?_;rintro r w' ⟨rfl,x,rfl⟩) | (go_at_call 133;with_reducible refine (q1c.out _).mono ?_;rintro r w' ⟨rfl,x,rfl⟩))
       go_meet
       first | exact ⟨congrArg Value.bool hF.out,_,rfl⟩ | exact ⟨congrArg Value.bool (Eq.trans (by simp [q0,q3]) hF.out),_,rfl⟩
      case true =>
       have hF:=Lib.hid (show (false) = C by rw [← hC'.out,← hG'.out];simp [q0,q3])
       go_wp2_with (first | (go_at_call 58;with_reducible refine (q0c.out _).mono ?_;rintro r w' ⟨rfl,x,rfl⟩) | (go_at_call 133;with_reducible refine (q1c.out _).mono ?_;rintro r w' ⟨rfl,x,rfl⟩))
       go_meet
       first | exact ⟨congrArg Value.bool hF.out,_,rfl⟩ | exact ⟨congrArg Value.bool (Eq.trans (by simp [q0,q3]) hF.out),_,rfl⟩
     case neg =>
      have q3:(dn.toList == dn2.toList) = false:=by simpa using q3
      have hF:=Lib.hid (show (true) = C by rw [← hC'.out,← hG'.out];simp [q0,q3])
      go_wp2_with (first | (go_at_call 58;with_reducible refine (q0c.out _).mono ?_;rintro r w' ⟨rfl,x,rfl⟩))
      go_meet
      first | exact ⟨congrArg Value.bool hF.out,_,rfl⟩ | exact ⟨congrArg Value.bool (Eq.trans (by simp [q0,q3]) hF.out),_,rfl⟩
  case neg =>
   have q0:(nm.toList == nm2.toList) = false:=by simpa using q0
   have hF:=Lib.hid (show (true) = C by rw [← hC'.out,← hG'.out];simp [q0])
   go_wp2_with (fail)
   go_meet
   first | exact ⟨congrArg Value.bool hF.out,_,rfl⟩ | exact ⟨congrArg Value.bool (Eq.trans (by simp [q0]) hF.out),_,rfl⟩
 case rest =>
  obtain ⟨rfl,y1,rfl⟩:=hcut
  clear q0c q1c
  cases G with
  | false =>
   have e:true = C:=hC'.out
   subst e
   have hs2:=Lib.hid (show false = R from hR'.out)
   clear hC' hG'
   go_wp2_with fail
   go_ret
   exact ⟨rb hs2.out,pp hz'.out⟩
  | true =>
   have e:false = C:=hC'.out
   subst e
   obtain rfl:kn = kn2:=by
    have h:=hG'.out
    simp only [Bool.and_eq_true,decide_eq_true_eq] at h
    exact h.2.1
   have h0:=Lib.hid (show eqAll eqKe (kl.drop 0) (kl2.drop 0) = R by rw [List.drop_zero,List.drop_zero,hA'.out];exact hR'.out)
   clear hC' hA' hR' hG'
   go_wp2_with fail
   go_loopw [5] (fun iv wr=>∃ k:Nat,k ≤ kn ∧ iv = .int .i64 (k:Int) ∧ Hid (eqAll eqKe (kl.drop k) (kl2.drop k) = R) ∧ ∃ y,wr = plus W y) (fun iv _=>kn - (intOf iv).toNat)
   case atStart=>exact ⟨0,Nat.zero_le _,rfl,h0,_,rfl⟩
   case round =>
    obtain ⟨k,hk,rfl,hs,y,rfl⟩:=hrel
    by_cases hlt:k < kn
    ·obtain ⟨a,ha⟩:∃ s,kl[k]? = some s:=⟨kl[k]'(by rw [hkn'.out];exact hlt),List.getElem?_eq_getElem _⟩
     obtain ⟨b,hb⟩:∃ s,kl2[k]? = some s:=⟨kl2[k]'(by rw [hkn2'.out];exact hlt),List.getElem?_eq_getElem _⟩
     obtain ⟨pa,hpa,hcV⟩:=rk'.out k a ha
     obtain ⟨pb,hpb,hdV⟩:=rl'.out k b hb
     have hma:=List.mem_of_getElem? ha
     have hmb:=List.mem_of_getElem? hb
     have hs1:(eqKe a b && eqAll eqKe (kl.drop (k + 1)) (kl2.drop (k + 1))) = R:=by rw [← eqAll_drop eqKe kl kl2 k a b ha hb];exact hs.out
     have a6:=Lib.hid (wr_succ k kn hlt bkn'.out)
     have hc:=hz'.out ▸ hcV.plus z
     have hd:=hz'.out ▸ hdV.plus z
     clear hcV hdV
     obtain rfl:=hpa
     obtain rfl:=hpb
     have q1:=kp_at hz'.out (ck'.out a hma b hmb)
     obtain ⟨⟨eop,⟨elw,elh,ell⟩,ehd,enm,eeh,eel,ep,ecap,eargs⟩,ka⟩:=a
     obtain ⟨⟨fop,⟨flw,flh,fll⟩,fhd,fnm,feh,fel,fp,fcap,fargs⟩,kb⟩:=b
     simp only [eqKe] at q1 hs1
     obtain ⟨Z,hZ⟩:∃ Z,Ex.same (.mk eop ⟨elw,elh,ell⟩ ehd enm eeh eel ep ecap eargs) (.mk fop ⟨flw,flh,fll⟩ fhd fnm feh fel fp fcap fargs) = Z:=⟨_,rfl⟩
     rw [hZ] at q1 hs1
     have q1:PureIn Tryz.prog W 19 #[.agg #[.int .u8 eop,.int .i64 elw,.int .u64 elh,.int .u64 ell,.string ehd,.string enm,.int .i64 eeh,.int .i64 eel,.slice ep eargs.length ecap],.agg #[.int .u8 fop,.int .i64 flw,.int .u64 flh,.int .u64 fll,.string fhd,.string fnm,.int .i64 feh,.int .i64 fel,.slice fp fargs.length fcap]] (.bool Z):=q1
     have d0:=fun y=>(hc.plus y).c0 _ rfl
     have d1:=fun y=>(hc.plus y).cs 0 _ rfl
     have d2:=fun y=>(hc.plus y).cs 1 _ rfl
     have d3:=fun y=>(hc.plus y).cs 2 _ rfl
     have d4:=fun y=>(hc.plus y).cs 3 _ rfl
     have d5:=fun y=>(hc.plus y).cs 4 _ rfl
     have d6:=fun y=>(hc.plus y).cs 5 _ rfl
     have d7:=fun y=>(hc.plus y).cs 6 _ rfl
     have d8:=fun y=>(hc.plus y).cs 7 _ rfl
     have d9:=fun y=>(hc.plus y).cs 8 _ rfl
     have g0:=fun y=>(hd.plus y).c0 _ rfl
     have g1:=fun y=>(hd.plus y).cs 0 _ rfl
     have g2:=fun y=>(hd.plus y).cs 1 _ rfl
     have g3:=fun y=>(hd.plus y).cs 2 _ rfl
     have g4:=fun y=>(hd.plus y).cs 3 _ rfl
     have g5:=fun y=>(hd.plus y).cs 4 _ rfl
     have g6:=fun y=>(hd.plus y).cs 5 _ rfl
     have g7:=fun y=>(hd.plus y).cs 6 _ rfl
     have g8:=fun y=>(hd.plus y).cs 7 _ rfl
     have g9:=fun y=>(hd.plus y).cs 8 _ rfl
     simp only [Ex.op,Ex.lit,Ex.head,Ex.name,Ex.hi,Ex.lo,Ex.p,Ex.cap,Ex.args] at d0 d1 d2 d3 d4 d5 d6 d7 d8 d9 g0 g1 g2 g3 g4 g5 g6 g7 g8 g9
     have q1':=Lib.hid q1
     clear q1 hZ hc hd ha hb hs hma hmb
     by_cases hq:ka = kb
     case neg =>
      have hqn:(ka != kb) = true:=by simpa using hq
      have hs2:=Lib.hid (show false = R by rw [← hs1];simp [hq])
      clear hs1
      go_wp2_with fail
      refine wp_region_own (by kernel_rfl) (by kernel_rfl) ?_
      repeat (go_big_quiet_step (fail))
      refine wpQuiet_nil ?_
      rintro _ ⟨y1,rfl⟩
      go_wp2_with fail
      go_ret
      exact ⟨rb hs2.out,pp hz'.out⟩
     case pos =>
      subst hq
      cases Z with
      | false =>
       have hs2:=Lib.hid (show false = R by rw [← hs1];simp)
       clear hs1
       go_wp2_with fail
       refine wp_region_own (by kernel_rfl) (by kernel_rfl) ?_
       repeat (go_big_quiet_step (first | (with_reducible exact q1'.out _)))
       refine wpQuiet_nil ?_
       rintro _ ⟨y1,rfl⟩
       go_wp2_with fail
       go_ret
       exact ⟨rb hs2.out,pp hz'.out⟩
      | true =>
       have hs2:=Lib.hid (show eqAll eqKe (kl.drop (k + 1)) (kl2.drop (k + 1)) = R by rw [← hs1];simp)
       clear hs1
       go_wp2_with fail
       refine wp_region_own (by kernel_rfl) (by kernel_rfl) ?_
       repeat (go_big_quiet_step (first | (with_reducible exact q1'.out _)))
       refine wpQuiet_nil ?_
       rintro _ ⟨y1,rfl⟩
       go_wp2_with fail
       go_roundw
       case rel=>exact ⟨k + 1,hlt,congrArg (Value.int .i64) a6.out,hs2,_,rfl⟩
       case measure=>exact step_less k kn hlt a6.out
    ·obtain rfl:kn = k:=by omega
     have hs2:=Lib.hid (show true = R by rw [← hs.out,List.drop_of_length_le (show kl.length ≤ kn by rw [hkn'.out];exact Nat.le_refl _),List.drop_of_length_le (show kl2.length ≤ kn by rw [hkn2'.out];exact Nat.le_refl _),eqAll];try rfl)
     clear hs hlt hk
     go_wp2_with fail
     go_ret
     exact ⟨rb hs2.out,pp hz'.out⟩
set_option maxHeartbeats 4000000 in
theorem neq_se (ak av ah al aw ai am bk bv bh bl bw bi bm:Int) (w:World):(binOp .neq 187 (.agg #[.int .u8 ak,.int .i64 av,.int .u64 ah,.int .u64 al,.int .i64 aw,.int .u64 ai,.int .u64 am]) (.agg #[.int .u8 bk,.int .i64 bv,.int .u64 bh,.int .u64 bl,.int .i64 bw,.int .u64 bi,.int .u64 bm])).run Tryz.prog w = .ok (.bool (!eqSe ⟨ak,⟨av,ah,al⟩,⟨aw,ai,am⟩⟩ ⟨bk,⟨bv,bh,bl⟩,⟨bw,bi,bm⟩⟩)) w:=by
 unfold eqSe eqLt
 simp only
 by_cases hak:ak = bk
 case neg=>go_simp
 subst hak
 by_cases hav:av = bv
 case neg=>go_simp
 subst hav
 by_cases hah:ah = bh
 case neg=>go_simp
 subst hah
 by_cases hal:al = bl
 case neg=>go_simp
 subst hal
 by_cases haw:aw = bw
 case neg=>go_simp
 subst haw
 by_cases hai:ai = bi
 case neg=>go_simp
 subst hai
 by_cases ham:am = bm
 case neg=>go_simp
 subst ham
 go_simp
set_option maxRecDepth 100000 in
set_option maxHeartbeats 16000000 in
theorem rsame_state (a b:Sa) (w:World) (ha:a.In w) (hb:b.In w) (sa:a.sz ≤ 1048576) (sb:b.sz ≤ 1048576):Kp Tryz.prog w 55 #[.agg a.cells.toArray,.agg b.cells.toArray] (.bool (eqSa a b)):=by
 intro y0
 have ha:=ha.plus y0
 have hb:=hb.plus y0
 obtain ⟨V,hV⟩:∃ V,plus w y0 = V:=⟨_,rfl⟩
 rw [hV] at ha hb ⊢
 clear hV
 unfold Sa.sz at sa sb
 have za:a.cases.size Ca.sz ≤ 1048576:=by omega
 have bcn:a.cases.l.length ≤ 1048576:=len_le Ca.sz sz_pos_ca _ za
 have c0:=rsame_names a.takes b.takes V ha.takes hb.takes (by omega)
 have c1:=rsame_exprs a.keys b.keys V ha.keys hb.keys (by omega) (by omega)
 have xs:=fun x (hx:x ∈ a.cases.l)=>(show (Ca.sets x).l.length ≤ 1048576 ∧ RowAt V 7 Se.cells (Ca.sets x).p (Ca.sets x).l from ⟨len_le Se.sz (fun _=>Nat.le_refl _) _ (by have:=one_sz za hx;unfold Ca.sz at this;omega),(ha.cases.kids x hx).sets.row⟩)
 have ys:=fun x (hx:x ∈ b.cases.l)=>(show RowAt V 7 Se.cells (Ca.sets x).p (Ca.sets x).l from (hb.cases.kids x hx).sets.row)
 have rc:=ha.cases.row
 have rd:=hb.cases.row
 obtain ⟨nm,⟨tp,tc,tl⟩,tgt,⟨kp,kc,kl⟩,⟨cp,cc,cl⟩⟩:=a
 obtain ⟨nm2,⟨tp2,tc2,tl2⟩,tgt2,⟨kp2,kc2,kl2⟩,⟨cp2,cc2,cl2⟩⟩:=b
 simp only [Sl.v] at bcn c0 c1 xs ys rc rd
 clear ha hb sa sb za
 have hT:eqSa ⟨nm,⟨tp,tc,tl⟩,tgt,⟨kp,kc,kl⟩,⟨cp,cc,cl⟩⟩ ⟨nm2,⟨tp2,tc2,tl2⟩,tgt2,⟨kp2,kc2,kl2⟩,⟨cp2,cc2,cl2⟩⟩ = (((nm.toList == nm2.toList) && (eqAll eqStr tl tl2 && ((tgt.toList == tgt2.toList) && (eqAll Ex.same kl kl2 && decide (cl.length = cl2.length))))) && eqAll eqCa cl cl2):=by
  simp only [eqSa,eqStr]
  rw [eqAll_dec eqCa]
  ac_rfl
 rw [hT]
 clear hT
 show Calls Tryz.prog 55 #[.agg #[.string nm,.slice tp tl.length tc,.string tgt,.slice kp kl.length kc,.slice cp cl.length cc],.agg #[.string nm2,.slice tp2 tl2.length tc2,.string tgt2,.slice kp2 kl2.length kc2,.slice cp2 cl2.length cc2]] V _
 generalize eqAll eqStr tl tl2 = s0 at c0 ⊢
 generalize eqAll Ex.same kl kl2 = s1 at c1 ⊢
 obtain ⟨cn,hcn⟩:∃ n,cl.length = n:=⟨_,rfl⟩
 obtain ⟨cn2,hcn2⟩:∃ n,cl2.length = n:=⟨_,rfl⟩
 rw [hcn] at bcn ⊢
 rw [hcn2]
 obtain ⟨A,hA⟩:∃ A,eqAll eqCa cl cl2 = A:=⟨_,rfl⟩
 obtain ⟨G,hG⟩:∃ A,((nm.toList == nm2.toList) && (s0 && ((tgt.toList == tgt2.toList) && (s1 && decide (cn = cn2))))) = A:=⟨_,rfl⟩
 obtain ⟨R,hR⟩:∃ B,(G && A) = B:=⟨_,rfl⟩
 obtain ⟨C,hC⟩:∃ A,(!G) = A:=⟨_,rfl⟩
 rw [hA,hG,hR]
 have nq:=neq_se
 have bcn':=Lib.hid bcn
 have c0':=Lib.hid c0
 have c1':=Lib.hid c1
 have xs':=Lib.hid xs
 have ys':=Lib.hid ys
 have rc':=Lib.hid rc
 have rd':=Lib.hid rd
 have hcn':=Lib.hid hcn
 have hcn2':=Lib.hid hcn2
 have hA':=Lib.hid hA
 have hG':=Lib.hid hG
 have hR':=Lib.hid hR
 have hC':=Lib.hid hC
 have nq':=Lib.hid nq
 clear bcn c0 c1 xs ys rc rd hcn hcn2 hA hG hR hC nq
 go_enter Tryz.func55,Tryz.ntmps55
 go_upto_region 1 with (fail)
 obtain ⟨W,yy,hW,⟨z,hz⟩,cb0,cb1⟩:=box2n V _ _ 72 72
 rw [hW]
 have e0_0:=cb0 0 _ rfl
 have e0_1:=cb0 1 _ rfl
 have e0_2:=cb0 2 _ rfl
 have e0_3:=cb0 3 _ rfl
 have e0_4:=cb0 4 _ rfl
 have e1_0:=cb1 0 _ rfl
 have e1_1:=cb1 1 _ rfl
 have e1_2:=cb1 2 _ rfl
 have e1_3:=cb1 3 _ rfl
 have e1_4:=cb1 4 _ rfl
 have q0c:=Lib.hid (kp_at hz c0'.out)
 have q1c:=Lib.hid (kp_at hz c1'.out)
 have hz':=Lib.hid hz
 clear hW hz cb0 cb1 c0' c1'
 go_cut [45] from 9 to 45 (fun v wx=>v = .bool C ∧ ∃ y,wx = plus W y)
 case first =>
  by_cases q0:(nm.toList == nm2.toList) = true
  case pos =>
   cases s0
   case false =>
    have hF:=Lib.hid (show (true) = C by rw [← hC'.out,← hG'.out];simp [q0])
    go_wp2_with (first | (go_at_call 58;with_reducible refine (q0c.out _).mono ?_;rintro r w' ⟨rfl,x,rfl⟩))
    go_meet
    first | exact ⟨congrArg Value.bool hF.out,_,rfl⟩ | exact ⟨congrArg Value.bool (Eq.trans (by simp [q0]) hF.out),_,rfl⟩
   case true =>
    by_cases q2:(tgt.toList == tgt2.toList) = true
    case pos =>
     cases s1
     case false =>
      have hF:=Lib.hid (show (true) = C by rw [← hC'.out,← hG'.out];simp [q0,q2])
      go_wp2_with (first | (go_at_call 58;with_reducible refine (q0c.out _).mono ?_;rintro r w' ⟨rfl,x,rfl⟩) | (go_at_call 59;with_reducible refine (q1c.out _).mono ?_;rintro r w' ⟨rfl,x,rfl⟩))
      go_meet
      first | exact ⟨congrArg Value.bool hF.out,_,rfl⟩ | exact ⟨congrArg Value.bool (Eq.trans (by simp [q0,q2]) hF.out),_,rfl⟩
     case true =>
      by_cases q4:cn = cn2
      case neg =>
       have q4x:((cn:Int) != (cn2:Int)) = true:=by simp;omega
       have hF:=Lib.hid (show (true) = C by rw [← hC'.out,← hG'.out];simp [q0,q2,q4])
       go_wp2_with (first | (go_at_call 58;with_reducible refine (q0c.out _).mono ?_;rintro r w' ⟨rfl,x,rfl⟩) | (go_at_call 59;with_reducible refine (q1c.out _).mono ?_;rintro r w' ⟨rfl,x,rfl⟩))
       go_meet
       first | exact ⟨congrArg Value.bool hF.out,_,rfl⟩ | exact ⟨congrArg Value.bool (Eq.trans (by simp [q0,q2,q4]) hF.out),_,rfl⟩
      case pos =>
       subst q4
       have hF:=Lib.hid (show (false) = C by rw [← hC'.out,← hG'.out];simp [q0,q2])
       go_wp2_with (first | (go_at_call 58;with_reducible refine (q0c.out _).mono ?_;rintro r w' ⟨rfl,x,rfl⟩) | (go_at_call 59;with_reducible refine (q1c.out _).mono ?_;rintro r w' ⟨rfl,x,rfl⟩))
       go_meet
       first | exact ⟨congrArg Value.bool hF.out,_,rfl⟩ | exact ⟨congrArg Value.bool (Eq.trans (by simp [q0,q2]) hF.out),_,rfl⟩
    case neg =>
     have q2:(tgt.toList == tgt2.toList) = false:=by simpa using q2
     have hF:=Lib.hid (show (true) = C by rw [← hC'.out,← hG'.out];simp [q0,q2])
     go_wp2_with (first | (go_at_call 58;with_reducible refine (q0c.out _).mono ?_;rintro r w' ⟨rfl,x,rfl⟩))
     go_meet
     first | exact ⟨congrArg Value.bool hF.out,_,rfl⟩ | exact ⟨congrArg Value.bool (Eq.trans (by simp [q0,q2]) hF.out),_,rfl⟩
  case neg =>
   have q0:(nm.toList == nm2.toList) = false:=by simpa using q0
   have hF:=Lib.hid (show (true) = C by rw [← hC'.out,← hG'.out];simp [q0])
   go_wp2_with (fail)
   go_meet
   first | exact ⟨congrArg Value.bool hF.out,_,rfl⟩ | exact ⟨congrArg Value.bool (Eq.trans (by simp [q0]) hF.out),_,rfl⟩
 case rest =>
  obtain ⟨rfl,y1,rfl⟩:=hcut
  clear q0c q1c
  cases G with
  | false =>
   have e:true = C:=hC'.out
   subst e
   have hs2:=Lib.hid (show false = R from hR'.out)
   clear hC' hG'
   go_wp2_with fail
   go_ret
   exact ⟨rb hs2.out,pp hz'.out⟩
  | true =>
   have e:false = C:=hC'.out
   subst e
   obtain rfl:cn = cn2:=by
    have h:=hG'.out
    simp only [Bool.and_eq_true,decide_eq_true_eq] at h
    exact h.2.2.2.2
   have h0:=Lib.hid (show eqAll eqCa (cl.drop 0) (cl2.drop 0) = R by rw [List.drop_zero,List.drop_zero,hA'.out];exact hR'.out)
   clear hC' hA' hR' hG'
   go_wp2_with fail
   go_loopw [5] (fun iv wr=>∃ k:Nat,k ≤ cn ∧ iv = .int .i64 (k:Int) ∧ Hid (eqAll eqCa (cl.drop k) (cl2.drop k) = R) ∧ ∃ y,wr = plus W y) (fun iv _=>cn - (intOf iv).toNat)
   case atStart=>exact ⟨0,Nat.zero_le _,rfl,h0,_,rfl⟩
   case round =>
    obtain ⟨k,hk,rfl,hs,y,rfl⟩:=hrel
    by_cases hlt:k < cn
    ·obtain ⟨a,ha⟩:∃ s,cl[k]? = some s:=⟨cl[k]'(by rw [hcn'.out];exact hlt),List.getElem?_eq_getElem _⟩
     obtain ⟨b,hb⟩:∃ s,cl2[k]? = some s:=⟨cl2[k]'(by rw [hcn2'.out];exact hlt),List.getElem?_eq_getElem _⟩
     obtain ⟨pa,hpa,hcV⟩:=rc'.out k a ha
     obtain ⟨pb,hpb,hdV⟩:=rd'.out k b hb
     have hma:=List.mem_of_getElem? ha
     have hmb:=List.mem_of_getElem? hb
     have hs1:(eqCa a b && eqAll eqCa (cl.drop (k + 1)) (cl2.drop (k + 1))) = R:=by rw [← eqAll_drop eqCa cl cl2 k a b ha hb];exact hs.out
     have a6:=Lib.hid (wr_succ k cn hlt bcn'.out)
     have hc:=hz'.out ▸ hcV.plus z
     have hd:=hz'.out ▸ hdV.plus z
     clear hcV hdV
     obtain ⟨a0,ha0⟩:∃ s,cl[0]? = some s:=⟨cl[0]'(by rw [hcn'.out];omega),List.getElem?_eq_getElem _⟩
     obtain ⟨b0,hb0⟩:∃ s,cl2[0]? = some s:=⟨cl2[0]'(by rw [hcn2'.out];omega),List.getElem?_eq_getElem _⟩
     obtain ⟨ga,oa,rfl⟩:∃ g o,cp = some ⟨g,o,none⟩:=rc'.out.base ha0 (v:=.bool (Ca.dflt a0)) rfl
     obtain ⟨gb,ob,rfl⟩:∃ g o,cp2 = some ⟨g,o,none⟩:=rd'.out.base hb0 (v:=.bool (Ca.dflt b0)) rfl
     obtain rfl:=Option.some.inj hpa
     obtain rfl:=Option.some.inj hpb
     rw [add_flat] at hc hd
     have hadda:(⟨ga,oa,none⟩:Addr).add (k * 3) = ⟨ga,oa + k * 3,none⟩:=add_flat _ _ _
     have haddb:(⟨gb,ob,none⟩:Addr).add (k * 3) = ⟨gb,ob + k * 3,none⟩:=add_flat _ _ _
     have hga:∀ y,ga < (plus W y).heap.size:=fun y=>block_in ((hc.plus y).c0 _ rfl)
     have hgb:∀ y,gb < (plus W y).heap.size:=fun y=>block_in ((hd.plus y).c0 _ rfl)
     have hva:∀ y,V.heap.size < (plus W y).heap.size:=fun y=>block_in (e0_0 y)
     have hvb:∀ y,V.heap.size + 1 < (plus W y).heap.size:=fun y=>block_in (e1_0 y)
     clear ha0 hb0 hpa hpb
     obtain ⟨bx,rx⟩:=xs'.out a hma
     have ry:=ys'.out b hmb
     obtain ⟨df,⟨xp,xc,xl⟩,xt⟩:=a
     obtain ⟨df2,⟨xp2,xc2,xl2⟩,xt2⟩:=b
     simp only at bx rx ry
     simp only [eqCa,eqStr] at hs1
     rw [eqAll_dec eqSe] at hs1
     have d0:=fun y=>(hc.plus y).c0 _ rfl
     have d1:=fun y=>(hc.plus y).cs 0 _ rfl
     have d2:=fun y=>(hc.plus y).cs 1 _ rfl
     have g0:=fun y=>(hd.plus y).c0 _ rfl
     have g1:=fun y=>(hd.plus y).cs 0 _ rfl
     have g2:=fun y=>(hd.plus y).cs 1 _ rfl
     simp only [Sl.v] at d0 d1 d2 g0 g1 g2
     obtain ⟨xn,hxn⟩:∃ n,xl.length = n:=⟨_,rfl⟩
     obtain ⟨xn2,hxn2⟩:∃ n,xl2.length = n:=⟨_,rfl⟩
     rw [hxn] at bx d1 hs1
     rw [hxn2] at g1 hs1
     obtain ⟨P,hP⟩:∃ P,((df == df2) && ((xt.toList == xt2.toList) && decide (xn = xn2))) = P:=⟨_,rfl⟩
     obtain ⟨Q,hQ⟩:∃ Q,(!P) = Q:=⟨_,rfl⟩
     have hs1:((P && eqAll eqSe xl xl2) && eqAll eqCa (cl.drop (k + 1)) (cl2.drop (k + 1))) = R:=by rw [← hs1,← hP];ac_rfl
     have bx':=Lib.hid bx
     have rx':=Lib.hid rx
     have ry':=Lib.hid ry
     have hxn':=Lib.hid hxn
     have hxn2':=Lib.hid hxn2
     have hP':=Lib.hid hP
     have hQ':=Lib.hid hQ
     have hs3':=Lib.hid hs1
     clear bx rx ry hxn hxn2 hP hQ hs1 hc hd ha hb hs hma hmb
     go_wp2
     go_cut [6,7] from 46 to 101 (fun s6 s7 wx=>∃ b c:Nat,s6 = .pointer (some ⟨b,0,none⟩) ∧ s7 = .pointer (some ⟨c,0,none⟩) ∧ Two W [.bool df,.slice xp xn xc,.string xt] [.bool df2,.slice xp2 xn2 xc2,.string xt2] b c wx)
     case first =>
      clear e0_0 e0_1 e0_2 e0_3 e1_0 e1_1 e1_2 e1_3 a6 bx' rx' ry' hxn' hxn2' hP' hQ' hs3' xs' ys' rc' rd' hcn' bcn' nq' hz'
      have hS:∀ U,Ov W U → (U.cell? ⟨V.heap.size,4,none⟩ = some (.slice (some ⟨ga,oa,none⟩) cn cc) ∧ U.cell? ⟨V.heap.size + 1,4,none⟩ = some (.slice (some ⟨gb,ob,none⟩) cn cc2) ∧ U.cell? ⟨ga,oa + k * 3,none⟩ = some (.bool df) ∧ U.cell? ⟨ga,oa + k * 3 + 1,none⟩ = some (.slice xp xn xc) ∧ U.cell? ⟨ga,oa + k * 3 + 2,none⟩ = some (.string xt) ∧ U.cell? ⟨gb,ob + k * 3,none⟩ = some (.bool df2) ∧ U.cell? ⟨gb,ob + k * 3 + 1,none⟩ = some (.slice xp2 xn2 xc2) ∧ U.cell? ⟨gb,ob + k * 3 + 2,none⟩ = some (.string xt2) ∧ Ov W U):=fun U hU=>by
       obtain ⟨z,rfl⟩:=id hU
       exact ⟨e0_4 z,e1_4 z,d0 z,d1 z,d2 z,g0 z,g1 z,g2 z,hU⟩
      have hS':=Lib.hid hS
      clear hS e0_4 e1_4 d0 d1 d2 g0 g1 g2 hga hgb hva hvb
      go_region_held3 (fun U=>U.cell? ⟨V.heap.size,4,none⟩ = some (.slice (some ⟨ga,oa,none⟩) cn cc) ∧ U.cell? ⟨V.heap.size + 1,4,none⟩ = some (.slice (some ⟨gb,ob,none⟩) cn cc2) ∧ U.cell? ⟨ga,oa + k * 3,none⟩ = some (.bool df) ∧ U.cell? ⟨ga,oa + k * 3 + 1,none⟩ = some (.slice xp xn xc) ∧ U.cell? ⟨ga,oa + k * 3 + 2,none⟩ = some (.string xt) ∧ U.cell? ⟨gb,ob + k * 3,none⟩ = some (.bool df2) ∧ U.cell? ⟨gb,ob + k * 3 + 1,none⟩ = some (.slice xp2 xn2 xc2) ∧ U.cell? ⟨gb,ob + k * 3 + 2,none⟩ = some (.string xt2) ∧ Ov W U) (exact hS'.out _ (by repeat (first | exact Ov.start _ _ | assumption | apply Ov.drew | apply Ov.alloc))) (fail)
      all_goals
       go_wp2_with fail
       go_meet
       first
        | exact ⟨_,_,rfl,rfl,two_fwd W y _ _ 76⟩
        | exact ⟨_,_,rfl,rfl,two_rev W y _ _ 76⟩
     case rest =>
      obtain ⟨bb,bc,rfl,rfl,ht⟩:=hcut
      obtain ⟨W2,rfl⟩:∃ W2:World,W2 = wc:=⟨_,rfl⟩
      obtain ⟨zv,hzv⟩:=ht.more
      have t0:=fun y=>cell_keep (ht.a 0 _ rfl) y
      have t1:=fun y=>cell_keep (ht.a 1 _ rfl) y
      have t2:=fun y=>cell_keep (ht.a 2 _ rfl) y
      have r0:=fun y=>cell_keep (ht.b 0 _ rfl) y
      have r1:=fun y=>cell_keep (ht.b 1 _ rfl) y
      have r2:=fun y=>cell_keep (ht.b 2 _ rfl) y
      obtain ⟨z4,hz4⟩:∃ z,W2 = plus V z:=⟨_,by rw [hzv,hz'.out,plus_plus]⟩
      have hzv':=Lib.hid hzv
      have hz4':=Lib.hid hz4
      have hself:W2 = plus W2 ⟨#[],W2.drawn⟩:=(plus_self W2).symm
      rw [hself]
      clear hself hzv hz4 ht d0 d1 d2 g0 g1 g2 hadda haddb hga hgb hva hvb
      go_upto_region 7 with (fail)
      go_cut [83] from 46 to 101 (fun v wx=>v = .bool Q ∧ ∃ y,wx = plus W2 y)
      case first =>
       cases df
       case false =>
        cases df2
        case false =>
         by_cases u1:(xt.toList == xt2.toList) = true
         case pos =>
          by_cases u2:xn = xn2
          case neg =>
           have u2x:((xn:Int) != (xn2:Int)) = true:=by simp;omega
           have hF:=Lib.hid (show (true) = Q by rw [← hQ'.out,← hP'.out];simp [u1,u2])
           go_wp2_with (fail)
           go_meet
           first | exact ⟨congrArg Value.bool hF.out,_,rfl⟩ | exact ⟨congrArg Value.bool (Eq.trans (by simp [u1,u2]) hF.out),_,rfl⟩
          case pos =>
           subst u2
           have hF:=Lib.hid (show (false) = Q by rw [← hQ'.out,← hP'.out];simp [u1])
           go_wp2_with (fail)
           go_meet
           first | exact ⟨congrArg Value.bool hF.out,_,rfl⟩ | exact ⟨congrArg Value.bool (Eq.trans (by simp [u1]) hF.out),_,rfl⟩
         case neg =>
          have u1:(xt.toList == xt2.toList) = false:=by simpa using u1
          have hF:=Lib.hid (show (true) = Q by rw [← hQ'.out,← hP'.out];simp [u1])
          go_wp2_with (fail)
          go_meet
          first | exact ⟨congrArg Value.bool hF.out,_,rfl⟩ | exact ⟨congrArg Value.bool (Eq.trans (by simp [u1]) hF.out),_,rfl⟩
        case true =>
         have hF:=Lib.hid (show (true) = Q by rw [← hQ'.out,← hP'.out];simp)
         go_wp2_with (fail)
         go_meet
         first | exact ⟨congrArg Value.bool hF.out,_,rfl⟩ | exact ⟨congrArg Value.bool (Eq.trans (by simp) hF.out),_,rfl⟩
       case true =>
        cases df2
        case false =>
         have hF:=Lib.hid (show (true) = Q by rw [← hQ'.out,← hP'.out];simp)
         go_wp2_with (fail)
         go_meet
         first | exact ⟨congrArg Value.bool hF.out,_,rfl⟩ | exact ⟨congrArg Value.bool (Eq.trans (by simp) hF.out),_,rfl⟩
        case true =>
         by_cases u1:(xt.toList == xt2.toList) = true
         case pos =>
          by_cases u2:xn = xn2
          case neg =>
           have u2x:((xn:Int) != (xn2:Int)) = true:=by simp;omega
           have hF:=Lib.hid (show (true) = Q by rw [← hQ'.out,← hP'.out];simp [u1,u2])
           go_wp2_with (fail)
           go_meet
           first | exact ⟨congrArg Value.bool hF.out,_,rfl⟩ | exact ⟨congrArg Value.bool (Eq.trans (by simp [u1,u2]) hF.out),_,rfl⟩
          case pos =>
           subst u2
           have hF:=Lib.hid (show (false) = Q by rw [← hQ'.out,← hP'.out];simp [u1])
           go_wp2_with (fail)
           go_meet
           first | exact ⟨congrArg Value.bool hF.out,_,rfl⟩ | exact ⟨congrArg Value.bool (Eq.trans (by simp [u1]) hF.out),_,rfl⟩
         case neg =>
          have u1:(xt.toList == xt2.toList) = false:=by simpa using u1
          have hF:=Lib.hid (show (true) = Q by rw [← hQ'.out,← hP'.out];simp [u1])
          go_wp2_with (fail)
          go_meet
          first | exact ⟨congrArg Value.bool hF.out,_,rfl⟩ | exact ⟨congrArg Value.bool (Eq.trans (by simp [u1]) hF.out),_,rfl⟩
      case rest =>
       obtain ⟨rfl,y4,rfl⟩:=hcut
       cases P with
       | false =>
        have e:true = Q:=hQ'.out
        subst e
        have hs2:=Lib.hid (show false = R from hs3'.out)
        clear hQ' hP'
        go_wp2_with fail
        go_ret
        exact ⟨rb hs2.out,by rw [hz4'.out,plus_plus];exact ⟨_,rfl⟩⟩
       | true =>
        have e:false = Q:=hQ'.out
        subst e
        obtain rfl:xn = xn2:=by
         have h:=hP'.out
         simp only [Bool.and_eq_true,decide_eq_true_eq] at h
         exact h.2.2
        have h0i:=Lib.hid (show (eqAll eqSe (xl.drop 0) (xl2.drop 0) && eqAll eqCa (cl.drop (k + 1)) (cl2.drop (k + 1))) = R by rw [List.drop_zero,List.drop_zero];exact hs3'.out)
        clear hQ' hs3' hP'
        go_wp2_with fail
        go_loopw [8] (fun iv wr=>∃ ki:Nat,ki ≤ xn ∧ iv = .int .i64 (ki:Int) ∧ Hid ((eqAll eqSe (xl.drop ki) (xl2.drop ki) && eqAll eqCa (cl.drop (k + 1)) (cl2.drop (k + 1))) = R) ∧ ∃ y,wr = plus W2 y) (fun iv _=>xn - (intOf iv).toNat)
        case atStart=>exact ⟨0,Nat.zero_le _,rfl,h0i,_,rfl⟩
        case round =>
         obtain ⟨ki,hki,rfl,hsi,yi,rfl⟩:=hrel
         by_cases hlti:ki < xn
         ·obtain ⟨a,ha⟩:∃ s,xl[ki]? = some s:=⟨xl[ki]'(by rw [hxn'.out];exact hlti),List.getElem?_eq_getElem _⟩
          obtain ⟨b,hb⟩:∃ s,xl2[ki]? = some s:=⟨xl2[ki]'(by rw [hxn2'.out];exact hlti),List.getElem?_eq_getElem _⟩
          obtain ⟨pai,hpa,hcV⟩:=rx'.out ki a ha
          obtain ⟨pbi,hpb,hdV⟩:=ry'.out ki b hb
          have hma:=List.mem_of_getElem? ha
          have hmb:=List.mem_of_getElem? hb
          have hs1i:((eqSe a b && eqAll eqSe (xl.drop (ki + 1)) (xl2.drop (ki + 1))) && eqAll eqCa (cl.drop (k + 1)) (cl2.drop (k + 1))) = R:=by rw [← eqAll_drop eqSe xl xl2 ki a b ha hb];exact hsi.out
          have a6i:=Lib.hid (wr_succ ki xn hlti bx'.out)
          have hc:=hz4'.out ▸ hcV.plus z4
          have hd:=hz4'.out ▸ hdV.plus z4
          clear hcV hdV
          obtain rfl:=hpa
          obtain rfl:=hpb
          obtain ⟨Z,hZ⟩:∃ Z,eqSe a b = Z:=⟨_,rfl⟩
          rw [hZ] at hs1i
          obtain ⟨ak,⟨av,ah,al⟩,⟨aw,ai,am⟩⟩:=a
          obtain ⟨bk,⟨bv,bh,bl⟩,⟨bw,bi,bm⟩⟩:=b
          have nq:=nq'.out ak av ah al aw ai am bk bv bh bl bw bi bm
          rw [hZ] at nq
          have d0:=fun y=>(hc.plus y).c0 _ rfl
          have d1:=fun y=>(hc.plus y).cs 0 _ rfl
          have d2:=fun y=>(hc.plus y).cs 1 _ rfl
          have d3:=fun y=>(hc.plus y).cs 2 _ rfl
          have d4:=fun y=>(hc.plus y).cs 3 _ rfl
          have d5:=fun y=>(hc.plus y).cs 4 _ rfl
          have d6:=fun y=>(hc.plus y).cs 5 _ rfl
          have g0:=fun y=>(hd.plus y).c0 _ rfl
          have g1:=fun y=>(hd.plus y).cs 0 _ rfl
          have g2:=fun y=>(hd.plus y).cs 1 _ rfl
          have g3:=fun y=>(hd.plus y).cs 2 _ rfl
          have g4:=fun y=>(hd.plus y).cs 3 _ rfl
          have g5:=fun y=>(hd.plus y).cs 4 _ rfl
          have g6:=fun y=>(hd.plus y).cs 5 _ rfl
          simp only at d0 d1 d2 d3 d4 d5 d6 g0 g1 g2 g3 g4 g5 g6
          clear hZ hc hd ha hb hsi hma hmb
          cases Z with
          | false =>
           have hs2:=Lib.hid (show false = R by rw [← hs1i];simp)
           clear hs1i
           go_wp2_with fail
           refine wp_region_own (by kernel_rfl) (by kernel_rfl) ?_
           repeat (go_big_quiet_step (fail))
           refine wpQuiet_nil ?_
           rintro _ ⟨y1,rfl⟩
           go_wp2_with fail
           go_ret
           exact ⟨rb hs2.out,by rw [hz4'.out,plus_plus];exact ⟨_,rfl⟩⟩
          | true =>
           have hs2:=Lib.hid (show (eqAll eqSe (xl.drop (ki + 1)) (xl2.drop (ki + 1)) && eqAll eqCa (cl.drop (k + 1)) (cl2.drop (k + 1))) = R by rw [← hs1i];simp)
           clear hs1i
           go_wp2_with fail
           refine wp_region_own (by kernel_rfl) (by kernel_rfl) ?_
           repeat (go_big_quiet_step (fail))
           refine wpQuiet_nil ?_
           rintro _ ⟨y1,rfl⟩
           go_wp2_with fail
           go_roundw
           case rel=>exact ⟨ki + 1,hlti,congrArg (Value.int .i64) a6i.out,hs2,_,rfl⟩
           case measure=>exact step_less ki xn hlti a6i.out
         ·obtain rfl:xn = ki:=by omega
          have hs2:=Lib.hid (show eqAll eqCa (cl.drop (k + 1)) (cl2.drop (k + 1)) = R by rw [← hsi.out,List.drop_of_length_le (show xl.length ≤ xn by rw [hxn'.out];exact Nat.le_refl _),List.drop_of_length_le (show xl2.length ≤ xn by rw [hxn2'.out];exact Nat.le_refl _),eqAll];try rfl)
          clear hsi hlti hki
          go_wp2_with fail
          go_roundw
          case rel=>exact ⟨k + 1,hlt,congrArg (Value.int .i64) a6.out,hs2,by rw [hzv'.out,plus_plus];exact ⟨_,rfl⟩⟩
          case measure=>exact step_less k cn hlt a6.out
    ·obtain rfl:cn = k:=by omega
     have hs2:=Lib.hid (show true = R by rw [← hs.out,List.drop_of_length_le (show cl.length ≤ cn by rw [hcn'.out];exact Nat.le_refl _),List.drop_of_length_le (show cl2.length ≤ cn by rw [hcn2'.out];exact Nat.le_refl _),eqAll];try rfl)
     clear hs hlt hk
     go_wp2_with fail
     go_ret
     exact ⟨rb hs2.out,pp hz'.out⟩
end Go.Proofs.YtpjhokdehcpjbaaGreatDoor
