/-
  WHAT IS PROVED HERE: a part of the proof (made narrower and merged by program; the parts: Wi).
-/
import Derived.Test.YtlmhldcebllckaaGreatRows
import Derived.WalkKit
import Derived.Lib.Hide
import Derived.WalkSpells
import Derived.WalkLawsBesides
import Derived.Test.YtlmhldcebllckaaGreatM20
import Derived.Test.YtlmhldcebllckaaGreatM8
namespace Go.Proofs.YtlmhldcebllckaaGreat
open Go.RowKit
/-- Is all that a statement names there? N: all that its expression names. -/
def sB (p:Pr) (kd:Int) (hd nm:ByteArray) (N:Bool):Bool:=if kd = 1 then (if targetI p hd nm = -1 then false else N) else if kd = 3 then taI p.tables.l nm != -1 else if kd = 6 ∨ kd = 7 then hdI p.headers.l hd != -1 else if kd = 4 then true else N
set_option maxRecDepth 100000 in
set_option maxHeartbeats 16000000 in
theorem d_stmt (p:Pr) (w:World) (h:p.In w) (hz:p.sz ≤ 1048576) (act:Int) (kd:Int) (hd nm:ByteArray) (op lw lh ll:Int) (ehd enm:ByteArray) (hi lo:Int) (ep:Option Addr) (en ec:Nat) (tp:Option Addr) (tn tc:Nat) (up:Option Addr) (un uc:Nat) (N:Bool) (kN:Kp Tryz.prog w 84 #[.agg #[.slice p.headers.p p.headers.l.length p.headers.cap,.slice p.metas.p p.metas.l.length p.metas.cap,.slice p.states.p p.states.l.length p.states.cap,.slice p.actions.p p.actions.l.length p.actions.cap,.slice p.tables.p p.tables.l.length p.tables.cap,.slice p.control.p p.control.l.length p.control.cap,.slice p.emit.p p.emit.l.length p.emit.cap],.int .i64 act,.agg #[.int .u8 op,.int .i64 lw,.int .u64 lh,.int .u64 ll,.string ehd,.string enm,.int .i64 hi,.int .i64 lo,.slice ep en ec]] (.bool N)):Kp Tryz.prog w 85 #[.agg #[.slice p.headers.p p.headers.l.length p.headers.cap,.slice p.metas.p p.metas.l.length p.metas.cap,.slice p.states.p p.states.l.length p.states.cap,.slice p.actions.p p.actions.l.length p.actions.cap,.slice p.tables.p p.tables.l.length p.tables.cap,.slice p.control.p p.control.l.length p.control.cap,.slice p.emit.p p.emit.l.length p.emit.cap],.int .i64 act,.agg #[.int .u8 kd,.string hd,.string nm,.int .u8 op,.int .i64 lw,.int .u64 lh,.int .u64 ll,.string ehd,.string enm,.int .i64 hi,.int .i64 lo,.slice ep en ec,.slice tp tn tc,.slice up un uc]] (.bool (sB p kd hd nm N)):=by
 have k1:=r_Header p w h hz hd
 have k2:=r_Field p w h hz (hdI p.headers.l hd) nm
 have k3:=r_Meta p w h hz nm
 have k4:=r_Table p w h hz nm
 have g1:=idx_ge (fun x:Hr=>x.name.toList == hd.toList) p.headers.l
 have g2:=fieldI_ge p (hdI p.headers.l hd) nm
 have g3:=idx_ge (fun x:Fd=>x.name.toList == nm.toList) p.metas.l
 have g4:=idx_ge (fun x:Ta=>x.name.toList == nm.toList) p.tables.l
 obtain ⟨R,hR⟩:∃ R,sB p kd hd nm N = R:=⟨_,rfl⟩
 rw [hR]
 have hv:sB p kd hd nm N = R:=hR
 unfold sB targetI at hv
 clear hR
 obtain ⟨I2,h2⟩:∃ I,fieldI p (hdI p.headers.l hd) nm = I:=⟨_,rfl⟩
 obtain ⟨I1,h1⟩:∃ I,hdI p.headers.l hd = I:=⟨_,rfl⟩
 obtain ⟨I3,h3⟩:∃ I,fdI p.metas.l nm = I:=⟨_,rfl⟩
 obtain ⟨I4,h4⟩:∃ I,taI p.tables.l nm = I:=⟨_,rfl⟩
 have g1:I1 = -1 ∨ ¬ I1 < 0:=h1 ▸ g1
 have g3:I3 = -1 ∨ ¬ I3 < 0:=h3 ▸ g3
 have g4:I4 = -1 ∨ ¬ I4 < 0:=h4 ▸ g4
 rw [h2] at k2 hv g2
 rw [h1] at k1 k2 hv
 rw [h3] at k3 hv
 rw [h4] at k4 hv
 clear h1 h2 h3 h4
 replace hv:=Lib.hid hv
 replace g1:=Lib.hid g1
 replace g2:=Lib.hid g2
 replace g3:=Lib.hid g3
 replace g4:=Lib.hid g4
 intro y0
 have k1:=k1.up y0
 have k2:=k2.up y0
 have k3:=k3.up y0
 have k4:=k4.up y0
 have kN:=kN.up y0
 obtain ⟨V,hV⟩:∃ V,plus w y0 = V:=⟨_,rfl⟩
 simp only [hV] at k1 k2 k3 k4 kN ⊢
 clear hV h hz
 have k1':=Lib.hid k1
 have k2':=Lib.hid k2
 have k3':=Lib.hid k3
 have k4':=Lib.hid k4
 have kN':=Lib.hid kN
 clear k1 k2 k3 k4 kN
 go_enter Tryz.func85,Tryz.ntmps85
 go_upto_region 1 with (fail)
 obtain ⟨W,yy,hW,⟨z,hz2⟩,cp,cs⟩:=box2n V _ _ 30 75
 rw [hW]
 have cp0:=cp 0 _ rfl
 have cp1:=cp 1 _ rfl
 have cp2:=cp 2 _ rfl
 have cp3:=cp 3 _ rfl
 have cp4:=cp 4 _ rfl
 have cp5:=cp 5 _ rfl
 have cp6:=cp 6 _ rfl
 have cs0:=cs 0 _ rfl
 have cs1:=cs 1 _ rfl
 have cs2:=cs 2 _ rfl
 have cs3:=cs 3 _ rfl
 have cs4:=cs 4 _ rfl
 have cs5:=cs 5 _ rfl
 have cs6:=cs 6 _ rfl
 have cs7:=cs 7 _ rfl
 have cs8:=cs 8 _ rfl
 have cs9:=cs 9 _ rfl
 have cs10:=cs 10 _ rfl
 have cs11:=cs 11 _ rfl
 have cs12:=cs 12 _ rfl
 have cs13:=cs 13 _ rfl
 have q1:=Lib.hid (kp_at hz2 k1'.out)
 have q2:=Lib.hid (kp_at hz2 k2'.out)
 have q3:=Lib.hid (kp_at hz2 k3'.out)
 have q4:=Lib.hid (kp_at hz2 k4'.out)
 have qN:=Lib.hid (kp_at hz2 kN'.out)
 have hz3:=Lib.hid hz2
 clear hW hz2 cp cs k1' k2' k3' k4' kN'
 replace hv:=hv.out
 by_cases o1:kd = 1
 ·subst o1
  by_cases e:(hd.toList == ([]:List UInt8)) = true
  ·have e2:hd.toList.isEmpty = true:=by simpa using e
   rcases g3.out with i1 | i1
   ·rw [if_pos rfl,if_pos e,if_pos i1] at hv
    subst i1
    replace hv:=Lib.hid hv
    go_upto_region 3 with (fail)
    refine wp_region_own (by kernel_rfl) (by kernel_rfl) ?_
    repeat (go_big_quiet_step (first | (with_reducible exact q3.out _)))
    refine wpQuiet_nil ?_
    rintro _ ⟨y13,rfl⟩
    go_wp2_with (fail)
    go_ret
    exact ⟨congrArg (fun z=>Ending.returned (Value.bool z)) hv.out,by rw [hz3.out,plus_plus];exact ⟨_,rfl⟩⟩
   ·rw [if_pos rfl,if_pos e,if_neg (by omega)] at hv
    replace hv:=Lib.hid hv
    go_upto_region 3 with (fail)
    refine wp_region_own (by kernel_rfl) (by kernel_rfl) ?_
    repeat (go_big_quiet_step (first | (with_reducible exact q3.out _)))
    refine wpQuiet_nil ?_
    rintro _ ⟨y13,rfl⟩
    go_wp2_with (first | (go_at_call 84;with_reducible refine (qN.out _).mono ?_;rintro r w' ⟨rfl,x,rfl⟩))
    go_ret
    exact ⟨congrArg (fun z=>Ending.returned (Value.bool z)) hv.out,by rw [hz3.out,plus_plus];exact ⟨_,rfl⟩⟩
  ·have e1:(hd.toList == ([]:List UInt8)) = false:=by simpa using e
   have e2:hd.toList.isEmpty = false:=by simpa using e
   rcases g2.out with i1 | i1
   ·rw [if_pos rfl,if_neg e,if_pos i1] at hv
    subst i1
    replace hv:=Lib.hid hv
    go_upto_region 3 with (fail)
    refine wp_region_own (by kernel_rfl) (by kernel_rfl) ?_
    repeat (go_big_quiet_step (first | (with_reducible exact q1.out _) | (with_reducible exact q2.out _)))
    refine wpQuiet_nil ?_
    rintro _ ⟨y13,rfl⟩
    go_wp2_with (fail)
    go_ret
    exact ⟨congrArg (fun z=>Ending.returned (Value.bool z)) hv.out,by rw [hz3.out,plus_plus];exact ⟨_,rfl⟩⟩
   ·rw [if_pos rfl,if_neg e,if_neg (by omega)] at hv
    replace hv:=Lib.hid hv
    go_upto_region 3 with (fail)
    refine wp_region_own (by kernel_rfl) (by kernel_rfl) ?_
    repeat (go_big_quiet_step (first | (with_reducible exact q1.out _) | (with_reducible exact q2.out _)))
    refine wpQuiet_nil ?_
    rintro _ ⟨y13,rfl⟩
    go_wp2_with (first | (go_at_call 84;with_reducible refine (qN.out _).mono ?_;rintro r w' ⟨rfl,x,rfl⟩))
    go_ret
    exact ⟨congrArg (fun z=>Ending.returned (Value.bool z)) hv.out,by rw [hz3.out,plus_plus];exact ⟨_,rfl⟩⟩
 rw [if_neg o1] at hv
 by_cases o3:kd = 3
 ·subst o3
  rw [if_pos rfl] at hv
  rcases g4.out with i1 | i1
  ·subst i1
   replace hv:=Lib.hid hv
   go_wp2_with (first | (go_at_call 129;with_reducible refine (q4.out _).mono ?_;rintro r w' ⟨rfl,x,rfl⟩))
   go_ret
   exact ⟨congrArg (fun z=>Ending.returned (Value.bool z)) hv.out,by rw [hz3.out,plus_plus];exact ⟨_,rfl⟩⟩
  ·have i2:0 ≤ I4:=by omega
   have i3:(I4 != -1) = true:=by rw [bne_iff_ne];omega
   rw [i3] at hv
   clear i3
   replace hv:=Lib.hid hv
   go_wp2_with (first | (go_at_call 129;with_reducible refine (q4.out _).mono ?_;rintro r w' ⟨rfl,x,rfl⟩))
   go_ret
   exact ⟨congrArg (fun z=>Ending.returned (Value.bool z)) hv.out,by rw [hz3.out,plus_plus];exact ⟨_,rfl⟩⟩
 rw [if_neg o3] at hv
 by_cases o6:kd = 6
 ·subst o6
  rw [if_pos (.inl rfl)] at hv
  rcases g1.out with i1 | i1
  ·subst i1
   replace hv:=Lib.hid hv
   go_wp2_with (first | (go_at_call 124;with_reducible refine (q1.out _).mono ?_;rintro r w' ⟨rfl,x,rfl⟩))
   go_ret
   exact ⟨congrArg (fun z=>Ending.returned (Value.bool z)) hv.out,by rw [hz3.out,plus_plus];exact ⟨_,rfl⟩⟩
  ·have i2:0 ≤ I1:=by omega
   have i3:(I1 != -1) = true:=by rw [bne_iff_ne];omega
   rw [i3] at hv
   clear i3
   replace hv:=Lib.hid hv
   go_wp2_with (first | (go_at_call 124;with_reducible refine (q1.out _).mono ?_;rintro r w' ⟨rfl,x,rfl⟩))
   go_ret
   exact ⟨congrArg (fun z=>Ending.returned (Value.bool z)) hv.out,by rw [hz3.out,plus_plus];exact ⟨_,rfl⟩⟩
 by_cases o7:kd = 7
 ·subst o7
  rw [if_pos (.inr rfl)] at hv
  rcases g1.out with i1 | i1
  ·subst i1
   replace hv:=Lib.hid hv
   go_wp2_with (first | (go_at_call 124;with_reducible refine (q1.out _).mono ?_;rintro r w' ⟨rfl,x,rfl⟩))
   go_ret
   exact ⟨congrArg (fun z=>Ending.returned (Value.bool z)) hv.out,by rw [hz3.out,plus_plus];exact ⟨_,rfl⟩⟩
  ·have i2:0 ≤ I1:=by omega
   have i3:(I1 != -1) = true:=by rw [bne_iff_ne];omega
   rw [i3] at hv
   clear i3
   replace hv:=Lib.hid hv
   go_wp2_with (first | (go_at_call 124;with_reducible refine (q1.out _).mono ?_;rintro r w' ⟨rfl,x,rfl⟩))
   go_ret
   exact ⟨congrArg (fun z=>Ending.returned (Value.bool z)) hv.out,by rw [hz3.out,plus_plus];exact ⟨_,rfl⟩⟩
 rw [if_neg (fun h=>h.elim o6 o7)] at hv
 by_cases o4:kd = 4
 ·subst o4
  rw [if_pos rfl] at hv
  replace hv:=Lib.hid hv
  go_wp2_with (fail)
  go_ret
  exact ⟨congrArg (fun z=>Ending.returned (Value.bool z)) hv.out,by rw [hz3.out,plus_plus];exact ⟨_,rfl⟩⟩
 rw [if_neg o4] at hv
 replace hv:=Lib.hid hv
 have n1:(kd == 1) = false:=by simpa using o1
 have n3:(kd == 3) = false:=by simpa using o3
 have n6:(kd == 6) = false:=by simpa using o6
 have n7:(kd == 7) = false:=by simpa using o7
 have n4:(kd == 4) = false:=by simpa using o4
 clear o1 o3 o6 o7 o4
 go_wp2_with (first | (go_at_call 84;with_reducible refine (qN.out _).mono ?_;rintro r w' ⟨rfl,x,rfl⟩))
 go_ret
 exact ⟨congrArg (fun z=>Ending.returned (Value.bool z)) hv.out,by rw [hz3.out,plus_plus];exact ⟨_,rfl⟩⟩
end Go.Proofs.YtlmhldcebllckaaGreat
