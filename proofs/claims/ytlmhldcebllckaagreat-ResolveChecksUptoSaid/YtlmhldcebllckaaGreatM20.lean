/-
  WHAT IS PROVED HERE: a part of the proof (made narrower and merged by program; the parts: Wd).
-/
import Derived.Test.YtlmhldcebllckaaGreatRows
import Derived.WalkKit
import Derived.Lib.Hide
import Derived.WalkSpells
import Derived.WalkLawsBesides
import Derived.Test.YtlmhldcebllckaaGreatM19
import Derived.Test.YtlmhldcebllckaaGreatM7
namespace Go.Proofs.YtlmhldcebllckaaGreat
open Go.RowKit
theorem there_drop (f:Ex → Bool) (l:List Ex) (k:Nat) (x:Ex) (hx:l[k]? = some x):(l.drop k).all (Ex.there f) = (x.there f && (l.drop (k + 1)).all (Ex.there f)):=all_drop _ l k x hx
theorem idx_ge {α:Type} (q:α → Bool) (l:List α):firstI q l 0 = -1 ∨ ¬ firstI q l 0 < 0:=by
 rcases firstI_ge q l 0 with h | ⟨h,_⟩
 ·exact .inl h
 ·exact .inr (by omega)
theorem fieldI_ge (p:Pr) (i:Int) (s:ByteArray):fieldI p i s = -1 ∨ ¬ fieldI p i s < 0:=by
 unfold fieldI
 split
 ·exact .inl rfl
 ·split
  ·exact .inl rfl
  ·exact idx_ge _ _
theorem paramI_ge (p:Pr) (i:Int) (s:ByteArray):paramI p i s = -1 ∨ ¬ paramI p i s < 0:=by
 unfold paramI
 split
 ·exact .inl rfl
 ·split
  ·exact .inl rfl
  ·exact idx_ge _ _
theorem ne_one {F:Int} (h:F = -1 ∨ ¬ F < 0):(F = -1 ∧ (F != -1) = false) ∨ (¬ F < 0 ∧ (F != -1) = true):=by
 rcases h with rfl | h
 ·exact .inl ⟨rfl,rfl⟩
 ·exact .inr ⟨h,by rw [bne_iff_ne];omega⟩
set_option maxRecDepth 100000 in
set_option maxHeartbeats 16000000 in
theorem r_There (p:Pr) (act:Int) (hz:p.sz ≤ 1048576):∀ (e:Ex) (w:World),p.In w → e.In w → e.wt ≤ 1048576 → Calls Tryz.prog 84 #[.agg #[.slice p.headers.p p.headers.l.length p.headers.cap,.slice p.metas.p p.metas.l.length p.metas.cap,.slice p.states.p p.states.l.length p.states.cap,.slice p.actions.p p.actions.l.length p.actions.cap,.slice p.tables.p p.tables.l.length p.tables.cap,.slice p.control.p p.control.l.length p.control.cap,.slice p.emit.p p.emit.l.length p.emit.cap],.int .i64 act,e.val] w fun r w'=>r = .returned (.bool (e.there (isB p act))) ∧ ∃ x,w' = plus w x:=by
 intro e
 induction e using Ex.ind with
 | _ e ih =>
 intro w hin he hb
 have hdp:=Ex.there_eq (isB p act) e
 obtain ⟨R,hR⟩:∃ R,e.there (isB p act) = R:=⟨_,rfl⟩
 obtain ⟨b,hbv'⟩:∃ b,isB p act e = b:=⟨_,rfl⟩
 rw [hR]
 rw [hR,hbv'] at hdp
 have hR':=Lib.hid hdp.symm
 clear hdp hR
 obtain ⟨op,⟨lw,lh,ll⟩,hd,nm,eh,el,ep,cap,args⟩:=e
 obtain ⟨_,_,_,_,_,_,_,_,_,hrow,hkids⟩:=he
 have hwt:=Ex.wt_eq (.mk op ⟨lw,lh,ll⟩ hd nm eh el ep cap args)
 simp only [Ex.args,Ex.head,Ex.name,Ex.p] at ih hrow hkids hwt hR'
 rw [hwt] at hb
 clear hwt
 have k1:=r_Header p w hin hz hd
 have k2:=r_Field p w hin hz (hdI p.headers.l hd) nm
 have k3:=r_Meta p w hin hz nm
 have k4:=r_Param p w hin hz act nm
 have g1:=idx_ge (fun x:Hr=>x.name.toList == hd.toList) p.headers.l
 have g2:=fieldI_ge p (hdI p.headers.l hd) nm
 have g3:=idx_ge (fun x:Fd=>x.name.toList == nm.toList) p.metas.l
 have g4:=paramI_ge p act nm
 show Calls Tryz.prog 84 #[.agg #[.slice p.headers.p p.headers.l.length p.headers.cap,.slice p.metas.p p.metas.l.length p.metas.cap,.slice p.states.p p.states.l.length p.states.cap,.slice p.actions.p p.actions.l.length p.actions.cap,.slice p.tables.p p.tables.l.length p.tables.cap,.slice p.control.p p.control.l.length p.control.cap,.slice p.emit.p p.emit.l.length p.emit.cap],.int .i64 act,.agg #[.int .u8 op,.int .i64 lw,.int .u64 lh,.int .u64 ll,.string hd,.string nm,.int .i64 eh,.int .i64 el,.slice ep args.length cap]] w _
 obtain ⟨n,hn⟩:∃ n,args.length = n:=⟨_,rfl⟩
 have hl:n ≤ 1048576:=by have:=length_le_sum Ex.wt Ex.wt_pos args;omega
 rw [hn]
 have ih':=Lib.hid ih
 have hin':=Lib.hid hin
 have hrow':=Lib.hid hrow
 have hkids':=Lib.hid hkids
 have hb':=Lib.hid hb
 have hn':=Lib.hid hn
 have hl':=Lib.hid hl
 have k1':=Lib.hid k1
 have k2':=Lib.hid k2
 have k3':=Lib.hid k3
 have k4':=Lib.hid k4
 replace hbv':=Lib.hid hbv'
 replace g1:=Lib.hid g1
 replace g2:=Lib.hid g2
 replace g3:=Lib.hid g3
 replace g4:=Lib.hid g4
 clear hl ih hin hrow hkids hb hn k1 k2 k3 k4
 go_enter Tryz.func84,Tryz.ntmps84
 go_upto_region 1 with (fail)
 obtain ⟨W,yy,hW,⟨z,hz2⟩,cp,cs⟩:=box2n w _ _ 30 68
 rw [hW]
 have p0:=cp 0 _ rfl
 have p1:=cp 1 _ rfl
 have p2:=cp 2 _ rfl
 have p3:=cp 3 _ rfl
 have p4:=cp 4 _ rfl
 have p5:=cp 5 _ rfl
 have p6:=cp 6 _ rfl
 have s0:=cs 0 _ rfl
 have s4:=cs 4 _ rfl
 have s5:=cs 5 _ rfl
 have s8:=cs 8 _ rfl
 have q1:=Lib.hid (kp_at hz2 k1'.out)
 have q2:=Lib.hid (kp_at hz2 k2'.out)
 have q3:=Lib.hid (kp_at hz2 k3'.out)
 have q4:=Lib.hid (kp_at hz2 k4'.out)
 have hz':=Lib.hid hz2
 clear hW hz2 cp cs k1' k2' k3' k4'
 by_cases o2:op = 2
 ·subst o2
  have hbE:isB p act (.mk 2 ⟨lw,lh,ll⟩ hd nm eh el ep cap args) = (fieldI p (hdI p.headers.l hd) nm != -1):=by simp [isB,Ex.op,Ex.head,Ex.name]
  have hge:=ne_one g2.out
  obtain ⟨F,hFv⟩:∃ F,fieldI p (hdI p.headers.l hd) nm = F:=⟨_,rfl⟩
  rw [hFv] at hge hbE q2
  obtain ⟨H,hHv⟩:∃ H,hdI p.headers.l hd = H:=⟨_,rfl⟩
  rw [hHv] at q1 q2
  clear hFv hHv q3 q4 g1 g2 g3 g4
  rcases hge with ⟨hF,hN⟩ | ⟨hF,hN⟩
  ·skip
   have h2:=Lib.hid (show false = R by rw [← hR'.out,← hbv'.out,hbE,hN,Bool.false_and])
   rw [hF] at q2
   clear hbE hbv' hR' hF hN
   go_upto_region 3 with (fail)
   refine wp_region_own (by kernel_rfl) (by kernel_rfl) ?_
   repeat (go_big_quiet_step (first | (with_reducible exact q1.out _) | (with_reducible exact q2.out _)))
   refine wpQuiet_nil ?_
   rintro _ ⟨y3,rfl⟩
   go_wp2
   go_ret
   exact ⟨congrArg (fun z=>Ending.returned (Value.bool z)) h2.out,by first | (rw [hz'.out,plus_plus,plus_plus];exact ⟨_,rfl⟩) | (rw [hz'.out,plus_plus];exact ⟨_,rfl⟩)⟩
  ·skip
   have h1:args.all (Ex.there (isB p act)) = R:=by rw [← hR'.out,← hbv'.out,hbE,hN,Bool.true_and]
   have h0':=Lib.hid (show (args.drop 0).all (Ex.there (isB p act)) = R from h1)
   clear h1 hbE hbv' hR' hN
   go_upto_region 3 with (fail)
   refine wp_region_own (by kernel_rfl) (by kernel_rfl) ?_
   repeat (go_big_quiet_step (first | (with_reducible exact q1.out _) | (with_reducible exact q2.out _)))
   refine wpQuiet_nil ?_
   rintro _ ⟨y3,rfl⟩
   go_wp2
   go_loopw [7] (fun iv wr=>∃ k:Nat,k ≤ n ∧ iv = .int .i64 (k:Int) ∧ Hid ((args.drop k).all (Ex.there (isB p act)) = R) ∧ ∃ y,wr = plus W y) (fun iv _=>n - (intOf iv).toNat)
   case atStart=>exact ⟨0,Nat.zero_le _,rfl,h0',_,(by first | rfl | exact plus_plus _ _ _ | exact (plus_self _).symm)⟩
   case round =>
    obtain ⟨k,hk,rfl,hs,y,rfl⟩:=hrel
    by_cases hlt:k < n
    ·obtain ⟨e,he⟩:∃ e,args[k]? = some e:=⟨args[k]'(by rw [hn'.out];exact hlt),List.getElem?_eq_getElem _⟩
     obtain ⟨a,hap,hc⟩:=hrow'.out k e he
     have hmem:e ∈ args:=List.mem_of_getElem? he
     have hew:=le_sum_of Ex.wt args e hmem
     have hs1:(e.there (isB p act) && (args.drop (k + 1)).all (Ex.there (isB p act))) = R:=by rw [← there_drop _ args k e he];exact hs.out
     have hkid:=PureIn.of_plus (fun W2 (hW2:∃ y,W2 = plus W y)=>ih'.out e hmem W2 (by obtain ⟨y,h⟩:=hW2;rw [h,hz'.out,plus_plus];exact hin'.out.plus _) (by obtain ⟨y,h⟩:=hW2;rw [h,hz'.out,plus_plus];exact (hkids'.out e hmem).plus _) (by have:=hb'.out;omega))
     have hc':∀ y,CellsAt (plus W y) (a.add (k * 9)) e.cells:=fun y=>by rw [hz'.out,plus_plus];exact hc.plus _
     obtain ⟨Z,hZ⟩:∃ Z,e.there (isB p act) = Z:=⟨_,rfl⟩
     rw [hZ] at hkid hs1
     obtain ⟨eop,⟨elw,elh,ell⟩,ehd,enm,eeh,eel,eep,ecap,eargs⟩:=e
     have d0:=fun y=>(hc' y).c0 _ rfl
     have d1:=fun y=>(hc' y).cs 0 _ rfl
     have d2:=fun y=>(hc' y).cs 1 _ rfl
     have d3:=fun y=>(hc' y).cs 2 _ rfl
     have d4:=fun y=>(hc' y).cs 3 _ rfl
     have d5:=fun y=>(hc' y).cs 4 _ rfl
     have d6:=fun y=>(hc' y).cs 5 _ rfl
     have d7:=fun y=>(hc' y).cs 6 _ rfl
     have d8:=fun y=>(hc' y).cs 7 _ rfl
     simp only [Ex.op,Ex.lit,Ex.head,Ex.name,Ex.hi,Ex.lo,Ex.p,Ex.cap,Ex.args] at d0 d1 d2 d3 d4 d5 d6 d7 d8
     have hkid2:PureIn Tryz.prog W 84 #[.agg #[.slice p.headers.p p.headers.l.length p.headers.cap,.slice p.metas.p p.metas.l.length p.metas.cap,.slice p.states.p p.states.l.length p.states.cap,.slice p.actions.p p.actions.l.length p.actions.cap,.slice p.tables.p p.tables.l.length p.tables.cap,.slice p.control.p p.control.l.length p.control.cap,.slice p.emit.p p.emit.l.length p.emit.cap],.int .i64 act,.agg #[.int .u8 eop,.int .i64 elw,.int .u64 elh,.int .u64 ell,.string ehd,.string enm,.int .i64 eeh,.int .i64 eel,.slice eep eargs.length ecap]] (.bool Z):=hkid
     have hkid':=Lib.hid hkid2
     have a6:=Lib.hid (wr_succ k n hlt hl'.out)
     rw [hap]
     clear hc' hc hew hkid hkid2 hmem he hZ hs
     cases Z with
     | true =>
      have hs2:=Lib.hid (show (args.drop (k + 1)).all (Ex.there (isB p act)) = R by rw [← hs1,Bool.true_and])
      clear hs1
      go_upto_region 17 with (fail)
      refine wp_region_own (by kernel_rfl) (by kernel_rfl) ?_
      repeat (go_big_quiet_step (first | (with_reducible exact hkid'.out _)))
      refine wpQuiet_nil ?_
      rintro _ ⟨y2,rfl⟩
      go_wp2
      go_roundw
      case rel=>exact ⟨k + 1,hlt,congrArg (Value.int .i64) a6.out,hs2,_,rfl⟩
      case measure=>exact step_less k n hlt a6.out
     | false =>
      have hs2:=Lib.hid (show false = R by rw [← hs1,Bool.false_and])
      clear hs1
      go_upto_region 17 with (fail)
      refine wp_region_own (by kernel_rfl) (by kernel_rfl) ?_
      repeat (go_big_quiet_step (first | (with_reducible exact hkid'.out _)))
      refine wpQuiet_nil ?_
      rintro _ ⟨y2,rfl⟩
      go_wp2
      go_ret
      exact ⟨rb hs2.out,pp hz'.out⟩
    ·obtain rfl:k = n:=by omega
     have hs2:=Lib.hid (show true = R by
      rw [← hs.out,List.drop_of_length_le (by rw [hn'.out];exact Nat.le_refl _)];rfl)
     clear hs hlt hk
     go_wp2
     go_ret
     exact ⟨rb hs2.out,pp hz'.out⟩
 by_cases o3:op = 3
 ·subst o3
  have hbE:isB p act (.mk 3 ⟨lw,lh,ll⟩ hd nm eh el ep cap args) = (fdI p.metas.l nm != -1):=by simp [isB,Ex.op,Ex.name]
  have hge:=ne_one g3.out
  have hge:(fdI p.metas.l nm = -1 ∧ (fdI p.metas.l nm != -1) = false) ∨ (¬ fdI p.metas.l nm < 0 ∧ (fdI p.metas.l nm != -1) = true):=hge
  obtain ⟨F,hFv⟩:∃ F,fdI p.metas.l nm = F:=⟨_,rfl⟩
  rw [hFv] at hge hbE q3
  clear hFv q1 q2 q4 g1 g2 g3 g4
  rcases hge with ⟨hF,hN⟩ | ⟨hF,hN⟩
  ·skip
   have h2:=Lib.hid (show false = R by rw [← hR'.out,← hbv'.out,hbE,hN,Bool.false_and])
   rw [hF] at q3
   clear hbE hbv' hR' hF hN
   go_wp2_with (first | (go_at_call 127;with_reducible refine (q3.out _).mono ?_;rintro r w' ⟨rfl,x,rfl⟩))
   go_ret
   exact ⟨congrArg (fun z=>Ending.returned (Value.bool z)) h2.out,by first | (rw [hz'.out,plus_plus,plus_plus];exact ⟨_,rfl⟩) | (rw [hz'.out,plus_plus];exact ⟨_,rfl⟩)⟩
  ·skip
   have h1:args.all (Ex.there (isB p act)) = R:=by rw [← hR'.out,← hbv'.out,hbE,hN,Bool.true_and]
   have h0':=Lib.hid (show (args.drop 0).all (Ex.there (isB p act)) = R from h1)
   clear h1 hbE hbv' hR' hN
   go_wp2_with (first | (go_at_call 127;with_reducible refine (q3.out _).mono ?_;rintro r w' ⟨rfl,x,rfl⟩))
   go_loopw [7] (fun iv wr=>∃ k:Nat,k ≤ n ∧ iv = .int .i64 (k:Int) ∧ Hid ((args.drop k).all (Ex.there (isB p act)) = R) ∧ ∃ y,wr = plus W y) (fun iv _=>n - (intOf iv).toNat)
   case atStart=>exact ⟨0,Nat.zero_le _,rfl,h0',_,(by first | rfl | exact plus_plus _ _ _ | exact (plus_self _).symm)⟩
   case round =>
    obtain ⟨k,hk,rfl,hs,y,rfl⟩:=hrel
    by_cases hlt:k < n
    ·obtain ⟨e,he⟩:∃ e,args[k]? = some e:=⟨args[k]'(by rw [hn'.out];exact hlt),List.getElem?_eq_getElem _⟩
     obtain ⟨a,hap,hc⟩:=hrow'.out k e he
     have hmem:e ∈ args:=List.mem_of_getElem? he
     have hew:=le_sum_of Ex.wt args e hmem
     have hs1:(e.there (isB p act) && (args.drop (k + 1)).all (Ex.there (isB p act))) = R:=by rw [← there_drop _ args k e he];exact hs.out
     have hkid:=PureIn.of_plus (fun W2 (hW2:∃ y,W2 = plus W y)=>ih'.out e hmem W2 (by obtain ⟨y,h⟩:=hW2;rw [h,hz'.out,plus_plus];exact hin'.out.plus _) (by obtain ⟨y,h⟩:=hW2;rw [h,hz'.out,plus_plus];exact (hkids'.out e hmem).plus _) (by have:=hb'.out;omega))
     have hc':∀ y,CellsAt (plus W y) (a.add (k * 9)) e.cells:=fun y=>by rw [hz'.out,plus_plus];exact hc.plus _
     obtain ⟨Z,hZ⟩:∃ Z,e.there (isB p act) = Z:=⟨_,rfl⟩
     rw [hZ] at hkid hs1
     obtain ⟨eop,⟨elw,elh,ell⟩,ehd,enm,eeh,eel,eep,ecap,eargs⟩:=e
     have d0:=fun y=>(hc' y).c0 _ rfl
     have d1:=fun y=>(hc' y).cs 0 _ rfl
     have d2:=fun y=>(hc' y).cs 1 _ rfl
     have d3:=fun y=>(hc' y).cs 2 _ rfl
     have d4:=fun y=>(hc' y).cs 3 _ rfl
     have d5:=fun y=>(hc' y).cs 4 _ rfl
     have d6:=fun y=>(hc' y).cs 5 _ rfl
     have d7:=fun y=>(hc' y).cs 6 _ rfl
     have d8:=fun y=>(hc' y).cs 7 _ rfl
     simp only [Ex.op,Ex.lit,Ex.head,Ex.name,Ex.hi,Ex.lo,Ex.p,Ex.cap,Ex.args] at d0 d1 d2 d3 d4 d5 d6 d7 d8
     have hkid2:PureIn Tryz.prog W 84 #[.agg #[.slice p.headers.p p.headers.l.length p.headers.cap,.slice p.metas.p p.metas.l.length p.metas.cap,.slice p.states.p p.states.l.length p.states.cap,.slice p.actions.p p.actions.l.length p.actions.cap,.slice p.tables.p p.tables.l.length p.tables.cap,.slice p.control.p p.control.l.length p.control.cap,.slice p.emit.p p.emit.l.length p.emit.cap],.int .i64 act,.agg #[.int .u8 eop,.int .i64 elw,.int .u64 elh,.int .u64 ell,.string ehd,.string enm,.int .i64 eeh,.int .i64 eel,.slice eep eargs.length ecap]] (.bool Z):=hkid
     have hkid':=Lib.hid hkid2
     have a6:=Lib.hid (wr_succ k n hlt hl'.out)
     rw [hap]
     clear hc' hc hew hkid hkid2 hmem he hZ hs
     cases Z with
     | true =>
      have hs2:=Lib.hid (show (args.drop (k + 1)).all (Ex.there (isB p act)) = R by rw [← hs1,Bool.true_and])
      clear hs1
      go_upto_region 17 with (fail)
      refine wp_region_own (by kernel_rfl) (by kernel_rfl) ?_
      repeat (go_big_quiet_step (first | (with_reducible exact hkid'.out _)))
      refine wpQuiet_nil ?_
      rintro _ ⟨y2,rfl⟩
      go_wp2
      go_roundw
      case rel=>exact ⟨k + 1,hlt,congrArg (Value.int .i64) a6.out,hs2,_,rfl⟩
      case measure=>exact step_less k n hlt a6.out
     | false =>
      have hs2:=Lib.hid (show false = R by rw [← hs1,Bool.false_and])
      clear hs1
      go_upto_region 17 with (fail)
      refine wp_region_own (by kernel_rfl) (by kernel_rfl) ?_
      repeat (go_big_quiet_step (first | (with_reducible exact hkid'.out _)))
      refine wpQuiet_nil ?_
      rintro _ ⟨y2,rfl⟩
      go_wp2
      go_ret
      exact ⟨rb hs2.out,pp hz'.out⟩
    ·obtain rfl:k = n:=by omega
     have hs2:=Lib.hid (show true = R by
      rw [← hs.out,List.drop_of_length_le (by rw [hn'.out];exact Nat.le_refl _)];rfl)
     clear hs hlt hk
     go_wp2
     go_ret
     exact ⟨rb hs2.out,pp hz'.out⟩
 by_cases o4:op = 4
 ·subst o4
  have hbE:isB p act (.mk 4 ⟨lw,lh,ll⟩ hd nm eh el ep cap args) = (paramI p act nm != -1):=by simp [isB,Ex.op,Ex.name]
  have hge:=ne_one g4.out
  obtain ⟨F,hFv⟩:∃ F,paramI p act nm = F:=⟨_,rfl⟩
  rw [hFv] at hge hbE q4
  clear hFv q1 q2 q3 g1 g2 g3 g4
  rcases hge with ⟨hF,hN⟩ | ⟨hF,hN⟩
  ·skip
   have h2:=Lib.hid (show false = R by rw [← hR'.out,← hbv'.out,hbE,hN,Bool.false_and])
   rw [hF] at q4
   clear hbE hbv' hR' hF hN
   go_wp2_with (first | (go_at_call 128;with_reducible refine (q4.out _).mono ?_;rintro r w' ⟨rfl,x,rfl⟩))
   go_ret
   exact ⟨congrArg (fun z=>Ending.returned (Value.bool z)) h2.out,by first | (rw [hz'.out,plus_plus,plus_plus];exact ⟨_,rfl⟩) | (rw [hz'.out,plus_plus];exact ⟨_,rfl⟩)⟩
  ·skip
   have h1:args.all (Ex.there (isB p act)) = R:=by rw [← hR'.out,← hbv'.out,hbE,hN,Bool.true_and]
   have h0':=Lib.hid (show (args.drop 0).all (Ex.there (isB p act)) = R from h1)
   clear h1 hbE hbv' hR' hN
   go_wp2_with (first | (go_at_call 128;with_reducible refine (q4.out _).mono ?_;rintro r w' ⟨rfl,x,rfl⟩))
   go_loopw [7] (fun iv wr=>∃ k:Nat,k ≤ n ∧ iv = .int .i64 (k:Int) ∧ Hid ((args.drop k).all (Ex.there (isB p act)) = R) ∧ ∃ y,wr = plus W y) (fun iv _=>n - (intOf iv).toNat)
   case atStart=>exact ⟨0,Nat.zero_le _,rfl,h0',_,(by first | rfl | exact plus_plus _ _ _ | exact (plus_self _).symm)⟩
   case round =>
    obtain ⟨k,hk,rfl,hs,y,rfl⟩:=hrel
    by_cases hlt:k < n
    ·obtain ⟨e,he⟩:∃ e,args[k]? = some e:=⟨args[k]'(by rw [hn'.out];exact hlt),List.getElem?_eq_getElem _⟩
     obtain ⟨a,hap,hc⟩:=hrow'.out k e he
     have hmem:e ∈ args:=List.mem_of_getElem? he
     have hew:=le_sum_of Ex.wt args e hmem
     have hs1:(e.there (isB p act) && (args.drop (k + 1)).all (Ex.there (isB p act))) = R:=by rw [← there_drop _ args k e he];exact hs.out
     have hkid:=PureIn.of_plus (fun W2 (hW2:∃ y,W2 = plus W y)=>ih'.out e hmem W2 (by obtain ⟨y,h⟩:=hW2;rw [h,hz'.out,plus_plus];exact hin'.out.plus _) (by obtain ⟨y,h⟩:=hW2;rw [h,hz'.out,plus_plus];exact (hkids'.out e hmem).plus _) (by have:=hb'.out;omega))
     have hc':∀ y,CellsAt (plus W y) (a.add (k * 9)) e.cells:=fun y=>by rw [hz'.out,plus_plus];exact hc.plus _
     obtain ⟨Z,hZ⟩:∃ Z,e.there (isB p act) = Z:=⟨_,rfl⟩
     rw [hZ] at hkid hs1
     obtain ⟨eop,⟨elw,elh,ell⟩,ehd,enm,eeh,eel,eep,ecap,eargs⟩:=e
     have d0:=fun y=>(hc' y).c0 _ rfl
     have d1:=fun y=>(hc' y).cs 0 _ rfl
     have d2:=fun y=>(hc' y).cs 1 _ rfl
     have d3:=fun y=>(hc' y).cs 2 _ rfl
     have d4:=fun y=>(hc' y).cs 3 _ rfl
     have d5:=fun y=>(hc' y).cs 4 _ rfl
     have d6:=fun y=>(hc' y).cs 5 _ rfl
     have d7:=fun y=>(hc' y).cs 6 _ rfl
     have d8:=fun y=>(hc' y).cs 7 _ rfl
     simp only [Ex.op,Ex.lit,Ex.head,Ex.name,Ex.hi,Ex.lo,Ex.p,Ex.cap,Ex.args] at d0 d1 d2 d3 d4 d5 d6 d7 d8
     have hkid2:PureIn Tryz.prog W 84 #[.agg #[.slice p.headers.p p.headers.l.length p.headers.cap,.slice p.metas.p p.metas.l.length p.metas.cap,.slice p.states.p p.states.l.length p.states.cap,.slice p.actions.p p.actions.l.length p.actions.cap,.slice p.tables.p p.tables.l.length p.tables.cap,.slice p.control.p p.control.l.length p.control.cap,.slice p.emit.p p.emit.l.length p.emit.cap],.int .i64 act,.agg #[.int .u8 eop,.int .i64 elw,.int .u64 elh,.int .u64 ell,.string ehd,.string enm,.int .i64 eeh,.int .i64 eel,.slice eep eargs.length ecap]] (.bool Z):=hkid
     have hkid':=Lib.hid hkid2
     have a6:=Lib.hid (wr_succ k n hlt hl'.out)
     rw [hap]
     clear hc' hc hew hkid hkid2 hmem he hZ hs
     cases Z with
     | true =>
      have hs2:=Lib.hid (show (args.drop (k + 1)).all (Ex.there (isB p act)) = R by rw [← hs1,Bool.true_and])
      clear hs1
      go_upto_region 17 with (fail)
      refine wp_region_own (by kernel_rfl) (by kernel_rfl) ?_
      repeat (go_big_quiet_step (first | (with_reducible exact hkid'.out _)))
      refine wpQuiet_nil ?_
      rintro _ ⟨y2,rfl⟩
      go_wp2
      go_roundw
      case rel=>exact ⟨k + 1,hlt,congrArg (Value.int .i64) a6.out,hs2,_,rfl⟩
      case measure=>exact step_less k n hlt a6.out
     | false =>
      have hs2:=Lib.hid (show false = R by rw [← hs1,Bool.false_and])
      clear hs1
      go_upto_region 17 with (fail)
      refine wp_region_own (by kernel_rfl) (by kernel_rfl) ?_
      repeat (go_big_quiet_step (first | (with_reducible exact hkid'.out _)))
      refine wpQuiet_nil ?_
      rintro _ ⟨y2,rfl⟩
      go_wp2
      go_ret
      exact ⟨rb hs2.out,pp hz'.out⟩
    ·obtain rfl:k = n:=by omega
     have hs2:=Lib.hid (show true = R by
      rw [← hs.out,List.drop_of_length_le (by rw [hn'.out];exact Nat.le_refl _)];rfl)
     clear hs hlt hk
     go_wp2
     go_ret
     exact ⟨rb hs2.out,pp hz'.out⟩
 by_cases o6:op = 6
 ·subst o6
  have hbE:isB p act (.mk 6 ⟨lw,lh,ll⟩ hd nm eh el ep cap args) = (hdI p.headers.l hd != -1):=by simp [isB,Ex.op,Ex.head]
  have hge:=ne_one g1.out
  have hge:(hdI p.headers.l hd = -1 ∧ (hdI p.headers.l hd != -1) = false) ∨ (¬ hdI p.headers.l hd < 0 ∧ (hdI p.headers.l hd != -1) = true):=hge
  obtain ⟨F,hFv⟩:∃ F,hdI p.headers.l hd = F:=⟨_,rfl⟩
  rw [hFv] at hge hbE q1
  clear hFv q2 q3 q4 g1 g2 g3 g4
  rcases hge with ⟨hF,hN⟩ | ⟨hF,hN⟩
  ·skip
   have h2:=Lib.hid (show false = R by rw [← hR'.out,← hbv'.out,hbE,hN,Bool.false_and])
   rw [hF] at q1
   clear hbE hbv' hR' hF hN
   go_wp2_with (first | (go_at_call 124;with_reducible refine (q1.out _).mono ?_;rintro r w' ⟨rfl,x,rfl⟩))
   go_ret
   exact ⟨congrArg (fun z=>Ending.returned (Value.bool z)) h2.out,by first | (rw [hz'.out,plus_plus,plus_plus];exact ⟨_,rfl⟩) | (rw [hz'.out,plus_plus];exact ⟨_,rfl⟩)⟩
  ·skip
   have h1:args.all (Ex.there (isB p act)) = R:=by rw [← hR'.out,← hbv'.out,hbE,hN,Bool.true_and]
   have h0':=Lib.hid (show (args.drop 0).all (Ex.there (isB p act)) = R from h1)
   clear h1 hbE hbv' hR' hN
   go_wp2_with (first | (go_at_call 124;with_reducible refine (q1.out _).mono ?_;rintro r w' ⟨rfl,x,rfl⟩))
   go_loopw [7] (fun iv wr=>∃ k:Nat,k ≤ n ∧ iv = .int .i64 (k:Int) ∧ Hid ((args.drop k).all (Ex.there (isB p act)) = R) ∧ ∃ y,wr = plus W y) (fun iv _=>n - (intOf iv).toNat)
   case atStart=>exact ⟨0,Nat.zero_le _,rfl,h0',_,(by first | rfl | exact plus_plus _ _ _ | exact (plus_self _).symm)⟩
   case round =>
    obtain ⟨k,hk,rfl,hs,y,rfl⟩:=hrel
    by_cases hlt:k < n
    ·obtain ⟨e,he⟩:∃ e,args[k]? = some e:=⟨args[k]'(by rw [hn'.out];exact hlt),List.getElem?_eq_getElem _⟩
     obtain ⟨a,hap,hc⟩:=hrow'.out k e he
     have hmem:e ∈ args:=List.mem_of_getElem? he
     have hew:=le_sum_of Ex.wt args e hmem
     have hs1:(e.there (isB p act) && (args.drop (k + 1)).all (Ex.there (isB p act))) = R:=by rw [← there_drop _ args k e he];exact hs.out
     have hkid:=PureIn.of_plus (fun W2 (hW2:∃ y,W2 = plus W y)=>ih'.out e hmem W2 (by obtain ⟨y,h⟩:=hW2;rw [h,hz'.out,plus_plus];exact hin'.out.plus _) (by obtain ⟨y,h⟩:=hW2;rw [h,hz'.out,plus_plus];exact (hkids'.out e hmem).plus _) (by have:=hb'.out;omega))
     have hc':∀ y,CellsAt (plus W y) (a.add (k * 9)) e.cells:=fun y=>by rw [hz'.out,plus_plus];exact hc.plus _
     obtain ⟨Z,hZ⟩:∃ Z,e.there (isB p act) = Z:=⟨_,rfl⟩
     rw [hZ] at hkid hs1
     obtain ⟨eop,⟨elw,elh,ell⟩,ehd,enm,eeh,eel,eep,ecap,eargs⟩:=e
     have d0:=fun y=>(hc' y).c0 _ rfl
     have d1:=fun y=>(hc' y).cs 0 _ rfl
     have d2:=fun y=>(hc' y).cs 1 _ rfl
     have d3:=fun y=>(hc' y).cs 2 _ rfl
     have d4:=fun y=>(hc' y).cs 3 _ rfl
     have d5:=fun y=>(hc' y).cs 4 _ rfl
     have d6:=fun y=>(hc' y).cs 5 _ rfl
     have d7:=fun y=>(hc' y).cs 6 _ rfl
     have d8:=fun y=>(hc' y).cs 7 _ rfl
     simp only [Ex.op,Ex.lit,Ex.head,Ex.name,Ex.hi,Ex.lo,Ex.p,Ex.cap,Ex.args] at d0 d1 d2 d3 d4 d5 d6 d7 d8
     have hkid2:PureIn Tryz.prog W 84 #[.agg #[.slice p.headers.p p.headers.l.length p.headers.cap,.slice p.metas.p p.metas.l.length p.metas.cap,.slice p.states.p p.states.l.length p.states.cap,.slice p.actions.p p.actions.l.length p.actions.cap,.slice p.tables.p p.tables.l.length p.tables.cap,.slice p.control.p p.control.l.length p.control.cap,.slice p.emit.p p.emit.l.length p.emit.cap],.int .i64 act,.agg #[.int .u8 eop,.int .i64 elw,.int .u64 elh,.int .u64 ell,.string ehd,.string enm,.int .i64 eeh,.int .i64 eel,.slice eep eargs.length ecap]] (.bool Z):=hkid
     have hkid':=Lib.hid hkid2
     have a6:=Lib.hid (wr_succ k n hlt hl'.out)
     rw [hap]
     clear hc' hc hew hkid hkid2 hmem he hZ hs
     cases Z with
     | true =>
      have hs2:=Lib.hid (show (args.drop (k + 1)).all (Ex.there (isB p act)) = R by rw [← hs1,Bool.true_and])
      clear hs1
      go_upto_region 17 with (fail)
      refine wp_region_own (by kernel_rfl) (by kernel_rfl) ?_
      repeat (go_big_quiet_step (first | (with_reducible exact hkid'.out _)))
      refine wpQuiet_nil ?_
      rintro _ ⟨y2,rfl⟩
      go_wp2
      go_roundw
      case rel=>exact ⟨k + 1,hlt,congrArg (Value.int .i64) a6.out,hs2,_,rfl⟩
      case measure=>exact step_less k n hlt a6.out
     | false =>
      have hs2:=Lib.hid (show false = R by rw [← hs1,Bool.false_and])
      clear hs1
      go_upto_region 17 with (fail)
      refine wp_region_own (by kernel_rfl) (by kernel_rfl) ?_
      repeat (go_big_quiet_step (first | (with_reducible exact hkid'.out _)))
      refine wpQuiet_nil ?_
      rintro _ ⟨y2,rfl⟩
      go_wp2
      go_ret
      exact ⟨rb hs2.out,pp hz'.out⟩
    ·obtain rfl:k = n:=by omega
     have hs2:=Lib.hid (show true = R by
      rw [← hs.out,List.drop_of_length_le (by rw [hn'.out];exact Nat.le_refl _)];rfl)
     clear hs hlt hk
     go_wp2
     go_ret
     exact ⟨rb hs2.out,pp hz'.out⟩
 have hbE:isB p act (.mk op ⟨lw,lh,ll⟩ hd nm eh el ep cap args) = true:=by simp [isB,Ex.op,o2,o3,o4,o6]
 have n2:(op == 2) = false:=by simpa using o2
 have n3:(op == 3) = false:=by simpa using o3
 have n4:(op == 4) = false:=by simpa using o4
 have n6:(op == 6) = false:=by simpa using o6
 clear q1 q2 q3 q4 g1 g2 g3 g4 o2 o3 o4 o6
 have h1:args.all (Ex.there (isB p act)) = R:=by rw [← hR'.out,← hbv'.out,hbE,Bool.true_and]
 have h0':=Lib.hid (show (args.drop 0).all (Ex.there (isB p act)) = R from h1)
 clear h1 hbE hbv' hR'
 go_wp2
 go_loopw [7] (fun iv wr=>∃ k:Nat,k ≤ n ∧ iv = .int .i64 (k:Int) ∧ Hid ((args.drop k).all (Ex.there (isB p act)) = R) ∧ ∃ y,wr = plus W y) (fun iv _=>n - (intOf iv).toNat)
 case atStart=>exact ⟨0,Nat.zero_le _,rfl,h0',_,(by first | rfl | exact plus_plus _ _ _ | exact (plus_self _).symm)⟩
 case round =>
  obtain ⟨k,hk,rfl,hs,y,rfl⟩:=hrel
  by_cases hlt:k < n
  ·obtain ⟨e,he⟩:∃ e,args[k]? = some e:=⟨args[k]'(by rw [hn'.out];exact hlt),List.getElem?_eq_getElem _⟩
   obtain ⟨a,hap,hc⟩:=hrow'.out k e he
   have hmem:e ∈ args:=List.mem_of_getElem? he
   have hew:=le_sum_of Ex.wt args e hmem
   have hs1:(e.there (isB p act) && (args.drop (k + 1)).all (Ex.there (isB p act))) = R:=by rw [← there_drop _ args k e he];exact hs.out
   have hkid:=PureIn.of_plus (fun W2 (hW2:∃ y,W2 = plus W y)=>ih'.out e hmem W2 (by obtain ⟨y,h⟩:=hW2;rw [h,hz'.out,plus_plus];exact hin'.out.plus _) (by obtain ⟨y,h⟩:=hW2;rw [h,hz'.out,plus_plus];exact (hkids'.out e hmem).plus _) (by have:=hb'.out;omega))
   have hc':∀ y,CellsAt (plus W y) (a.add (k * 9)) e.cells:=fun y=>by rw [hz'.out,plus_plus];exact hc.plus _
   obtain ⟨Z,hZ⟩:∃ Z,e.there (isB p act) = Z:=⟨_,rfl⟩
   rw [hZ] at hkid hs1
   obtain ⟨eop,⟨elw,elh,ell⟩,ehd,enm,eeh,eel,eep,ecap,eargs⟩:=e
   have d0:=fun y=>(hc' y).c0 _ rfl
   have d1:=fun y=>(hc' y).cs 0 _ rfl
   have d2:=fun y=>(hc' y).cs 1 _ rfl
   have d3:=fun y=>(hc' y).cs 2 _ rfl
   have d4:=fun y=>(hc' y).cs 3 _ rfl
   have d5:=fun y=>(hc' y).cs 4 _ rfl
   have d6:=fun y=>(hc' y).cs 5 _ rfl
   have d7:=fun y=>(hc' y).cs 6 _ rfl
   have d8:=fun y=>(hc' y).cs 7 _ rfl
   simp only [Ex.op,Ex.lit,Ex.head,Ex.name,Ex.hi,Ex.lo,Ex.p,Ex.cap,Ex.args] at d0 d1 d2 d3 d4 d5 d6 d7 d8
   have hkid2:PureIn Tryz.prog W 84 #[.agg #[.slice p.headers.p p.headers.l.length p.headers.cap,.slice p.metas.p p.metas.l.length p.metas.cap,.slice p.states.p p.states.l.length p.states.cap,.slice p.actions.p p.actions.l.length p.actions.cap,.slice p.tables.p p.tables.l.length p.tables.cap,.slice p.control.p p.control.l.length p.control.cap,.slice p.emit.p p.emit.l.length p.emit.cap],.int .i64 act,.agg #[.int .u8 eop,.int .i64 elw,.int .u64 elh,.int .u64 ell,.string ehd,.string enm,.int .i64 eeh,.int .i64 eel,.slice eep eargs.length ecap]] (.bool Z):=hkid
   have hkid':=Lib.hid hkid2
   have a6:=Lib.hid (wr_succ k n hlt hl'.out)
   rw [hap]
   clear hc' hc hew hkid hkid2 hmem he hZ hs
   cases Z with
   | true =>
    have hs2:=Lib.hid (show (args.drop (k + 1)).all (Ex.there (isB p act)) = R by rw [← hs1,Bool.true_and])
    clear hs1
    go_upto_region 17 with (fail)
    refine wp_region_own (by kernel_rfl) (by kernel_rfl) ?_
    repeat (go_big_quiet_step (first | (with_reducible exact hkid'.out _)))
    refine wpQuiet_nil ?_
    rintro _ ⟨y2,rfl⟩
    go_wp2
    go_roundw
    case rel=>exact ⟨k + 1,hlt,congrArg (Value.int .i64) a6.out,hs2,_,rfl⟩
    case measure=>exact step_less k n hlt a6.out
   | false =>
    have hs2:=Lib.hid (show false = R by rw [← hs1,Bool.false_and])
    clear hs1
    go_upto_region 17 with (fail)
    refine wp_region_own (by kernel_rfl) (by kernel_rfl) ?_
    repeat (go_big_quiet_step (first | (with_reducible exact hkid'.out _)))
    refine wpQuiet_nil ?_
    rintro _ ⟨y2,rfl⟩
    go_wp2
    go_ret
    exact ⟨rb hs2.out,pp hz'.out⟩
  ·obtain rfl:k = n:=by omega
   have hs2:=Lib.hid (show true = R by
    rw [← hs.out,List.drop_of_length_le (by rw [hn'.out];exact Nat.le_refl _)];rfl)
   clear hs hlt hk
   go_wp2
   go_ret
   exact ⟨rb hs2.out,pp hz'.out⟩
end Go.Proofs.YtlmhldcebllckaaGreat
