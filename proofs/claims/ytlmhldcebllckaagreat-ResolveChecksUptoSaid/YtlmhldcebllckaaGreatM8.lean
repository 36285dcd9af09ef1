/-
  WHAT IS PROVED HERE: a part of the proof (made narrower and merged by program; the parts: Zg Zh).
-/
import Derived.Test.YtlmhldcebllckaaGreatRows
import Derived.WalkKit
import Derived.Lib.Hide
import Derived.WalkSpells
import Derived.WalkLawsBesides
import Derived.Test.YtlmhldcebllckaaGreatM7
namespace Go.Proofs.YtlmhldcebllckaaGreat
open Go.RowKit
/-- What is set. -/
def targetI (p:Pr) (hd nm:ByteArray):Int:=if hd.toList == [] then fdI p.metas.l nm else fieldI p (hdI p.headers.l hd) nm
set_option maxRecDepth 100000 in
set_option maxHeartbeats 8000000 in
theorem q_target (p:Pr) (w:World) (h:p.In w) (hz:p.sz ≤ 1048576) (kd:Int) (hd nm:ByteArray) (op lw lh ll:Int) (ehd enm:ByteArray) (hi lo:Int) (ep:Option Addr) (en ec:Nat) (tp:Option Addr) (tn tc:Nat) (up:Option Addr) (un uc:Nat):Kp Tryz.prog w 108 #[.agg #[.slice p.headers.p p.headers.l.length p.headers.cap,.slice p.metas.p p.metas.l.length p.metas.cap,.slice p.states.p p.states.l.length p.states.cap,.slice p.actions.p p.actions.l.length p.actions.cap,.slice p.tables.p p.tables.l.length p.tables.cap,.slice p.control.p p.control.l.length p.control.cap,.slice p.emit.p p.emit.l.length p.emit.cap],.agg #[.int .u8 kd,.string hd,.string nm,.int .u8 op,.int .i64 lw,.int .u64 lh,.int .u64 ll,.string ehd,.string enm,.int .i64 hi,.int .i64 lo,.slice ep en ec,.slice tp tn tc,.slice up un uc]] (.int .i64 (targetI p hd nm)):=by
 have k1:=q_Header p w h hz hd
 have k2:=q_Field p w h hz (hdI p.headers.l hd) nm
 have k3:=q_Meta p w h hz nm
 obtain ⟨R,hR⟩:∃ R,targetI p hd nm = R:=⟨_,rfl⟩
 rw [hR]
 unfold targetI at hR
 generalize fieldI p (hdI p.headers.l hd) nm = I2 at k2 hR
 generalize hdI p.headers.l hd = I1 at k1 k2
 generalize fdI p.metas.l nm = I3 at k3 hR
 replace hR:=Lib.hid hR
 intro y0
 have k1:=k1.up y0
 have k2:=k2.up y0
 have k3:=k3.up y0
 obtain ⟨V,hV⟩:∃ V,plus w y0 = V:=⟨_,rfl⟩
 simp only [hV] at k1 k2 k3 ⊢
 clear hV h hz
 have k1':=Lib.hid k1
 have k2':=Lib.hid k2
 have k3':=Lib.hid k3
 clear k1 k2 k3
 go_enter Tryz.func108,Tryz.ntmps108
 go_upto_region 1 with (fail)
 obtain ⟨W,yy,hW,⟨z,hz2⟩,cp,cs⟩:=box2n V _ _ 30 75
 rw [hW]
 have p0:=cp 0 _ rfl
 have p1:=cp 1 _ rfl
 have p2:=cp 2 _ rfl
 have p3:=cp 3 _ rfl
 have p4:=cp 4 _ rfl
 have p5:=cp 5 _ rfl
 have p6:=cp 6 _ rfl
 have s0:=cs 0 _ rfl
 have s1:=cs 1 _ rfl
 have s2:=cs 2 _ rfl
 have s3:=cs 3 _ rfl
 have s4:=cs 4 _ rfl
 have s5:=cs 5 _ rfl
 have s6:=cs 6 _ rfl
 have s7:=cs 7 _ rfl
 have s8:=cs 8 _ rfl
 have s9:=cs 9 _ rfl
 have s10:=cs 10 _ rfl
 have s11:=cs 11 _ rfl
 have s12:=cs 12 _ rfl
 have s13:=cs 13 _ rfl
 have qk1:=Lib.hid (kp_at hz2 k1'.out)
 have qk2:=Lib.hid (kp_at hz2 k2'.out)
 have qk3:=Lib.hid (kp_at hz2 k3'.out)
 have hz3:=Lib.hid hz2
 clear hW hz2 cp cs k1' k2' k3'
 replace hR:=hR.out
 by_cases e:(hd.toList == ([]:List UInt8)) = true
 ·rw [if_pos e] at hR
  replace hR:=Lib.hid hR
  have e2:hd.toList.isEmpty = true:=by simpa using e
  clear qk1 qk2
  go_wp2_with (first | (go_at_call 66;with_reducible refine (qk3.out _).mono ?_;rintro r w' ⟨rfl,x,rfl⟩))
  go_ret
  exact ⟨congrArg (fun z=>Ending.returned (Value.int .i64 z)) hR.out,by rw [hz3.out,plus_plus];exact ⟨_,rfl⟩⟩
 ·have e1:(hd.toList == ([]:List UInt8)) = false:=by simpa using e
  rw [if_neg e] at hR
  replace hR:=Lib.hid hR
  have e2:hd.toList.isEmpty = false:=by simpa using e
  clear e qk3
  go_upto_region 3 with (fail)
  refine wp_region_own (by kernel_rfl) (by kernel_rfl) ?_
  repeat (go_big_quiet_step (first | (with_reducible exact qk1.out _) | (with_reducible exact qk2.out _)))
  refine wpQuiet_nil ?_
  rintro _ ⟨y2,rfl⟩
  go_wp2
  go_ret
  exact ⟨congrArg (fun z=>Ending.returned (Value.int .i64 z)) hR.out,by rw [hz3.out,plus_plus];exact ⟨_,rfl⟩⟩
/-- What is wrong with a statement; N: what is wrong with the names in its expression. -/
def wStI (p:Pr) (act:Int) (kd:Int) (hd nm:ByteArray) (N:Int):Int :=
 if kd = 1 then (if targetI p hd nm = -1 then 7 else N) else if kd = 3 then (if act = -1 then (if taI p.tables.l nm = -1 then 7 else 0) else 9) else if kd = 6 ∨ kd = 7 then (if hdI p.headers.l hd = -1 then 7 else 0) else N
set_option maxRecDepth 100000 in
set_option maxHeartbeats 8000000 in
theorem q_wrongStmt (p:Pr) (w:World) (h:p.In w) (hz:p.sz ≤ 1048576) (act:Int) (kd:Int) (hd nm:ByteArray) (op lw lh ll:Int) (ehd enm:ByteArray) (hi lo:Int) (ep:Option Addr) (en ec:Nat) (tp:Option Addr) (tn tc:Nat) (up:Option Addr) (un uc:Nat) (N:Int) (kN:Kp Tryz.prog w 72 #[.agg #[.slice p.headers.p p.headers.l.length p.headers.cap,.slice p.metas.p p.metas.l.length p.metas.cap,.slice p.states.p p.states.l.length p.states.cap,.slice p.actions.p p.actions.l.length p.actions.cap,.slice p.tables.p p.tables.l.length p.tables.cap,.slice p.control.p p.control.l.length p.control.cap,.slice p.emit.p p.emit.l.length p.emit.cap],.int .i64 act,.agg #[.int .u8 op,.int .i64 lw,.int .u64 lh,.int .u64 ll,.string ehd,.string enm,.int .i64 hi,.int .i64 lo,.slice ep en ec]] (.int .i64 N)):Kp Tryz.prog w 71 #[.agg #[.slice p.headers.p p.headers.l.length p.headers.cap,.slice p.metas.p p.metas.l.length p.metas.cap,.slice p.states.p p.states.l.length p.states.cap,.slice p.actions.p p.actions.l.length p.actions.cap,.slice p.tables.p p.tables.l.length p.tables.cap,.slice p.control.p p.control.l.length p.control.cap,.slice p.emit.p p.emit.l.length p.emit.cap],.int .i64 act,.agg #[.int .u8 kd,.string hd,.string nm,.int .u8 op,.int .i64 lw,.int .u64 lh,.int .u64 ll,.string ehd,.string enm,.int .i64 hi,.int .i64 lo,.slice ep en ec,.slice tp tn tc,.slice up un uc]] (.int .i64 (wStI p act kd hd nm N)):=by
 have k1:=q_target p w h hz kd hd nm op lw lh ll ehd enm hi lo ep en ec tp tn tc up un uc
 have k2:=q_known (targetI p hd nm) w
 have k3:=q_Table p w h hz nm
 have k4:=q_known (taI p.tables.l nm) w
 have k5:=q_Header p w h hz hd
 have k6:=q_known (hdI p.headers.l hd) w
 obtain ⟨R,hR⟩:∃ R,wStI p act kd hd nm N = R:=⟨_,rfl⟩
 rw [hR]
 unfold wStI at hR
 generalize targetI p hd nm = I1 at k1 k2 hR
 generalize taI p.tables.l nm = I2 at k3 k4 hR
 generalize hdI p.headers.l hd = I3 at k5 k6 hR
 generalize (if I2 = -1 then (7:Int) else 0) = K2 at k4 hR
 generalize (if I3 = -1 then (7:Int) else 0) = K3 at k6 hR
 have g1:=Lib.hid (show kd = 1 → (if I1 = -1 then 7 else N) = R from fun e=>by have t:=hR;rw [if_pos e] at t;exact t)
 have g3:=Lib.hid (show kd = 3 → (if act = -1 then K2 else 9) = R from fun e=>by have t:=hR;rw [if_neg (show ¬ kd = 1 by omega),if_pos e] at t;exact t)
 have g6:=Lib.hid (show kd = 6 ∨ kd = 7 → K3 = R from fun e=>by have t:=hR;rw [if_neg (show ¬ kd = 1 by omega),if_neg (show ¬ kd = 3 by omega),if_pos e] at t;exact t)
 have g0:=Lib.hid (show kd ≠ 1 → kd ≠ 3 → kd ≠ 6 → kd ≠ 7 → N = R from fun e1 e3 e6 e7=>by have t:=hR;rw [if_neg e1,if_neg e3,if_neg (show ¬ (kd = 6 ∨ kd = 7) by omega)] at t;exact t)
 clear hR
 intro y0
 have k1:=k1.up y0
 have k2:=k2.up y0
 have k3:=k3.up y0
 have k4:=k4.up y0
 have k5:=k5.up y0
 have k6:=k6.up y0
 have kN:=kN.up y0
 obtain ⟨V,hV⟩:∃ V,plus w y0 = V:=⟨_,rfl⟩
 simp only [hV] at k1 k2 k3 k4 k5 k6 kN ⊢
 clear hV h hz
 have k1':=Lib.hid k1
 have k2':=Lib.hid k2
 have k3':=Lib.hid k3
 have k4':=Lib.hid k4
 have k5':=Lib.hid k5
 have k6':=Lib.hid k6
 have kN':=Lib.hid kN
 clear k1 k2 k3 k4 k5 k6 kN
 go_enter Tryz.func71,Tryz.ntmps71
 go_upto_region 1 with (fail)
 obtain ⟨W,yy,hW,⟨z,hz2⟩,cp,cs⟩:=box2n V _ _ 30 75
 rw [hW]
 have p0:=cp 0 _ rfl
 have p1:=cp 1 _ rfl
 have p2:=cp 2 _ rfl
 have p3:=cp 3 _ rfl
 have p4:=cp 4 _ rfl
 have p5:=cp 5 _ rfl
 have p6:=cp 6 _ rfl
 have s0:=cs 0 _ rfl
 have s1:=cs 1 _ rfl
 have s2:=cs 2 _ rfl
 have s3:=cs 3 _ rfl
 have s4:=cs 4 _ rfl
 have s5:=cs 5 _ rfl
 have s6:=cs 6 _ rfl
 have s7:=cs 7 _ rfl
 have s8:=cs 8 _ rfl
 have s9:=cs 9 _ rfl
 have s10:=cs 10 _ rfl
 have s11:=cs 11 _ rfl
 have s12:=cs 12 _ rfl
 have s13:=cs 13 _ rfl
 have qk1:=Lib.hid (kp_at hz2 k1'.out)
 have qk2:=Lib.hid (kp_at hz2 k2'.out)
 have qk3:=Lib.hid (kp_at hz2 k3'.out)
 have qk4:=Lib.hid (kp_at hz2 k4'.out)
 have qk5:=Lib.hid (kp_at hz2 k5'.out)
 have qk6:=Lib.hid (kp_at hz2 k6'.out)
 have qkN:=Lib.hid (kp_at hz2 kN'.out)
 have hz3:=Lib.hid hz2
 clear hW hz2 cp cs k1' k2' k3' k4' k5' k6' kN'
 by_cases o1:kd = 1
 ·have hR:=g1.out o1
  clear g0 g1 g3 g6
  subst o1
  clear qk3 qk4 qk5 qk6
  by_cases i1:I1 = -1
  ·subst i1
   rw [if_pos rfl] at hR
   rw [if_pos rfl] at qk2
   replace hR:=Lib.hid hR
   go_wp2_with (first | (go_at_call 108;with_reducible refine (qk1.out _).mono ?_;rintro r w' ⟨rfl,x,rfl⟩) | (go_at_call 67;with_reducible refine (qk2.out _).mono ?_;rintro r w' ⟨rfl,x,rfl⟩))
   go_ret
   exact ⟨congrArg (fun z=>Ending.returned (Value.int .i64 z)) hR.out,by rw [hz3.out,plus_plus];exact ⟨_,rfl⟩⟩
  ·rw [if_neg i1] at hR
   rw [if_neg i1] at qk2
   replace hR:=Lib.hid hR
   clear i1
   go_wp2_with (first | (go_at_call 108;with_reducible refine (qk1.out _).mono ?_;rintro r w' ⟨rfl,x,rfl⟩) | (go_at_call 67;with_reducible refine (qk2.out _).mono ?_;rintro r w' ⟨rfl,x,rfl⟩) | (go_at_call 72;with_reducible refine (qkN.out _).mono ?_;rintro r w' ⟨rfl,x,rfl⟩))
   go_ret
   exact ⟨congrArg (fun z=>Ending.returned (Value.int .i64 z)) hR.out,by rw [hz3.out,plus_plus];exact ⟨_,rfl⟩⟩
 have n1:(kd == 1) = false:=by simpa using o1
 by_cases o3:kd = 3
 ·have hR:=g3.out o3
  clear g0 g1 g3 g6
  subst o3
  clear qk1 qk2 qk5 qk6 qkN
  by_cases a1:act = -1
  ·subst a1
   rw [if_pos rfl] at hR
   replace hR:=Lib.hid hR
   clear o1
   go_wp2_with (first | (go_at_call 13;with_reducible refine (qk3.out _).mono ?_;rintro r w' ⟨rfl,x,rfl⟩) | (go_at_call 67;with_reducible refine (qk4.out _).mono ?_;rintro r w' ⟨rfl,x,rfl⟩))
   go_ret
   exact ⟨congrArg (fun z=>Ending.returned (Value.int .i64 z)) hR.out,by rw [hz3.out,plus_plus];exact ⟨_,rfl⟩⟩
  ·rw [if_neg a1] at hR
   replace hR:=Lib.hid hR
   have a2:(act != -1) = true:=by simpa using a1
   clear o1 a1 qk3 qk4
   go_wp2_with (fail)
   go_ret
   exact ⟨congrArg (fun z=>Ending.returned (Value.int .i64 z)) hR.out,by rw [hz3.out,plus_plus];exact ⟨_,rfl⟩⟩
 have n3:(kd == 3) = false:=by simpa using o3
 by_cases o6:kd = 6
 ·have hR:=Lib.hid (g6.out (.inl o6))
  clear g0 g1 g3 g6
  subst o6
  clear qk1 qk2 qk3 qk4 qkN o1 o3
  go_wp2_with (first | (go_at_call 10;with_reducible refine (qk5.out _).mono ?_;rintro r w' ⟨rfl,x,rfl⟩) | (go_at_call 67;with_reducible refine (qk6.out _).mono ?_;rintro r w' ⟨rfl,x,rfl⟩))
  go_ret
  exact ⟨congrArg (fun z=>Ending.returned (Value.int .i64 z)) hR.out,by rw [hz3.out,plus_plus];exact ⟨_,rfl⟩⟩
 have n6:(kd == 6) = false:=by simpa using o6
 by_cases o7:kd = 7
 ·have hR:=Lib.hid (g6.out (.inr o7))
  clear g0 g1 g3 g6
  subst o7
  clear qk1 qk2 qk3 qk4 qkN o1 o3 o6
  go_wp2_with (first | (go_at_call 10;with_reducible refine (qk5.out _).mono ?_;rintro r w' ⟨rfl,x,rfl⟩) | (go_at_call 67;with_reducible refine (qk6.out _).mono ?_;rintro r w' ⟨rfl,x,rfl⟩))
  go_ret
  exact ⟨congrArg (fun z=>Ending.returned (Value.int .i64 z)) hR.out,by rw [hz3.out,plus_plus];exact ⟨_,rfl⟩⟩
 have n7:(kd == 7) = false:=by simpa using o7
 have hR:=Lib.hid (g0.out o1 o3 o6 o7)
 clear g0 g1 g3 g6 qk1 qk2 qk3 qk4 qk5 qk6 o1 o3 o6 o7
 go_wp2_with (first | (go_at_call 72;with_reducible refine (qkN.out _).mono ?_;rintro r w' ⟨rfl,x,rfl⟩))
 go_ret
 exact ⟨congrArg (fun z=>Ending.returned (Value.int .i64 z)) hR.out,by rw [hz3.out,plus_plus];exact ⟨_,rfl⟩⟩
set_option maxRecDepth 100000 in
set_option maxHeartbeats 8000000 in
theorem q_wrongListed (m:Int) (A:Sl ByteArray) (k:Nat) (s:ByteArray) (hs:A.l[k]? = some s) (w:World) (hA:A.In w 1 strCells strOk) (hl:A.l.length ≤ 1048576):Kp Tryz.prog w 73 #[.int .i64 m,A.v,.int .i64 (k:Int)] (.int .i64 (if m = -1 then 7 else if nmI A.l s = (k:Int) then 0 else 8)):=by
 intro y0
 have k1:=(q_known m w).up y0
 have k2:=(res_firstName strOk A s w hA hl).up y0
 have k3:=(q_alone (nmI A.l s) (k:Int) w).up y0
 have hr:=hA.row.plus y0
 obtain ⟨V,hV⟩:∃ V,plus w y0 = V:=⟨_,rfl⟩
 rw [hV] at k1 k2 k3 hr ⊢
 clear hV hA
 obtain ⟨pa,ha,hc⟩:=hr k s hs
 have hk:k < A.l.length:=(List.getElem?_eq_some_iff.1 hs).1
 obtain ⟨ap,ac,al⟩:=A
 simp only [Sl.v] at ha hk k2 k3 hl ⊢
 subst ha
 generalize nmI al s = I at k2 k3 ⊢
 generalize (if I = (k:Int) then (0:Int) else 8) = K at k3 ⊢
 have d0:=fun y=>(hc.plus y).c0 _ rfl
 simp only [Nat.mul_one] at d0
 obtain ⟨n,hn⟩:∃ n,al.length = n:=⟨_,rfl⟩
 rw [hn] at hk k2 ⊢
 have k1':=Lib.hid k1.pure
 have k2':=Lib.hid k2.pure
 have k3':=Lib.hid k3.pure
 have e0:=d0 ⟨#[],V.drawn⟩
 rw [plus_self] at e0
 have hV:=plus_self V
 have hV2:=Lib.hid hV
 clear k1 k2 k3 hr hc hs hn hl hV
 go_enter Tryz.func73,Tryz.ntmps73
 by_cases hm:m = -1
 ·subst hm
  rw [if_pos rfl] at k1'
  rw [if_pos rfl]
  clear k2' k3'
  rw [← hV2.out]
  go_wp2_with (first | (go_at_call 67;with_reducible refine (k1'.out _).mono ?_;rintro r w' ⟨rfl,x,rfl⟩))
  go_ret
  exact ⟨rfl,_,rfl⟩
 ·rw [if_neg hm] at k1'
  rw [if_neg hm]
  clear hm
  rw [← hV2.out]
  go_wp2_with (first | (go_at_call 67;with_reducible refine (k1'.out _).mono ?_;rintro r w' ⟨rfl,x,rfl⟩) | (go_at_call 113;with_reducible refine (k2'.out _).mono ?_;rintro r w' ⟨rfl,x,rfl⟩) | (go_at_call 64;with_reducible refine (k3'.out _).mono ?_;rintro r w' ⟨rfl,x,rfl⟩))
  go_ret
  exact ⟨rfl,_,rfl⟩
theorem lift_cell {W W2:World} {z:Ext} {a:Addr} {v:Option Value} (hz:W2 = plus W z) (h:∀ y,(plus W y).cell? a = v):∀ y,(plus W2 y).cell? a = v:=fun y=>by rw [hz,plus_plus];exact h _
/-- What is wrong with a header. -/
def wHdI (p:Pr) (k:Nat) (x:Hr):Int:=if hdI p.headers.l x.name = (k:Int) then (if (bitsI x.fields.l).tmod 8 = 0 ∧ bitsI x.fields.l ≤ 256 then 0 else 10) else 8
set_option maxRecDepth 100000 in
set_option maxHeartbeats 8000000 in
theorem q_wrongHeader (p:Pr) (w:World) (h:p.In w) (hz:p.sz ≤ 1048576) (k:Nat) (x:Hr) (hx:p.headers.l[k]? = some x):Kp Tryz.prog w 63 #[.agg #[.slice p.headers.p p.headers.l.length p.headers.cap,.slice p.metas.p p.metas.l.length p.metas.cap,.slice p.states.p p.states.l.length p.states.cap,.slice p.actions.p p.actions.l.length p.actions.cap,.slice p.tables.p p.tables.l.length p.tables.cap,.slice p.control.p p.control.l.length p.control.cap,.slice p.emit.p p.emit.l.length p.emit.cap],.int .i64 (k:Int)] (.int .i64 (wHdI p k x)):=by
 intro y0
 have hmem:=List.mem_of_getElem? hx
 have hlen:x.fields.l.length ≤ 1048576:=by
  have h1:=le_sum_of Hr.sz p.headers.l x hmem
  have h2:p.sz = p.headers.size Hr.sz + p.metas.size Fd.sz + p.states.size Sa.sz + p.actions.size Ac.sz + p.tables.size Ta.sz + p.control.size St.sz + p.emit.size strSize:=rfl
  have h3:p.headers.size Hr.sz = (p.headers.l.map Hr.sz).sum:=rfl
  have h4:x.fields.size Fd.sz ≤ x.sz:=by unfold Hr.sz;omega
  exact len_le Fd.sz Fd.sz_pos x.fields (by omega)
 have k1:=(q_Header p w h hz x.name).up y0
 have k2:=(q_alone (hdI p.headers.l x.name) (k:Int) w).up y0
 have k3:=(q_Bits x.name x.fields w _ (h.headers.kids x hmem).fields hlen).up y0
 have hr:=h.headers.row.plus y0
 have hkn:k < p.headers.l.length:=(List.getElem?_eq_some_iff.1 hx).1
 obtain ⟨V,hV⟩:∃ V,plus w y0 = V:=⟨_,rfl⟩
 rw [hV] at k1 k2 k3 hr ⊢
 clear hV h hz hlen
 obtain ⟨R,hR⟩:∃ R,wHdI p k x = R:=⟨_,rfl⟩
 rw [hR]
 unfold wHdI at hR
 obtain ⟨pa,ha,hc⟩:=hr k x hx
 obtain ⟨A,hA⟩:∃ A,p.headers = A:=⟨_,rfl⟩
 simp only [hA] at k1 k2 hR ha hkn ⊢
 clear hA hx hmem hr
 obtain ⟨ap,ac,al⟩:=A
 simp only at ha
 subst ha
 simp only at hkn hR k1 k2 ⊢
 generalize hdI al x.name = I at k1 k2 hR
 generalize bitsI x.fields.l = B at k3 hR
 obtain ⟨n,hn⟩:∃ n,al.length = n:=⟨_,rfl⟩
 rw [hn] at hkn k1 ⊢
 clear hn
 obtain ⟨xn,⟨fp,fc,fl⟩⟩:=x
 simp only [Hr.cells,Sl.v] at hc k1 k3
 have d0:=fun y=>(hc.plus y).c0 _ rfl
 have d1:=fun y=>(hc.plus y).cs 0 _ rfl
 have hc':=Lib.hid hc
 have k1':=Lib.hid k1
 have k2':=Lib.hid k2
 have k3':=Lib.hid k3
 have hR':=Lib.hid hR
 clear hc k1 k2 k3 hR d0 d1
 go_enter Tryz.func63,Tryz.ntmps63
 go_upto_region 1 with (fail)
 obtain ⟨U,hU,hB,-,cp,-⟩:=box1 V _ 30
 rw [← hU]
 obtain ⟨z0,hz0⟩:=plus_of_below hB
 have cp0:=cp 0 _ rfl
 have cp1:=cp 1 _ rfl
 have cp2:=cp 2 _ rfl
 have cp3:=cp 3 _ rfl
 have cp4:=cp 4 _ rfl
 have cp5:=cp 5 _ rfl
 have cp6:=cp 6 _ rfl
 have hcU:=cells_up hz0 hc'.out
 have d0:=hcU.c0 _ rfl
 have d1:=hcU.cs 0 _ rfl
 have e0:=cp0 ⟨#[],U.drawn⟩
 rw [plus_self] at e0
 have hcU':=Lib.hid hcU
 have hz0':=Lib.hid hz0
 clear hU hB cp hcU hc' hz0
 go_upto_region 2 with (fail)
 obtain ⟨W,hW,hB,-,ch,-⟩:=box1 U _ 38
 rw [← hW]
 obtain ⟨z,hz2⟩:=plus_of_below hB
 obtain ⟨zV,hzV⟩:∃ x,W = plus V x:=by rw [hz2,hz0'.out,plus_plus];exact ⟨_,rfl⟩
 have p0:=lift_cell hz2 cp0
 have p1:=lift_cell hz2 cp1
 have p2:=lift_cell hz2 cp2
 have p3:=lift_cell hz2 cp3
 have p4:=lift_cell hz2 cp4
 have p5:=lift_cell hz2 cp5
 have p6:=lift_cell hz2 cp6
 have h0:=ch 0 _ rfl
 have h1:=ch 1 _ rfl
 have q1:=Lib.hid (kp_at hzV k1'.out)
 have q2:=Lib.hid (kp_at hzV k2'.out)
 have q3:=Lib.hid (kp_at hzV k3'.out)
 have hz3:=Lib.hid hzV
 clear hW hB ch hz2 hzV k1' k2' k3' hcU' d0 d1 e0 hz0' cp0 cp1 cp2 cp3 cp4 cp5 cp6
 have w0:=plus_self W
 rw [← w0]
 have hR:=hR'.out
 clear hR' w0
 by_cases i1:I = (k:Int)
 ·rw [if_pos i1] at hR q2
  subst i1
  by_cases b1:B.tmod 8 = 0
  ·by_cases b2:B ≤ 256
   ·rw [if_pos ⟨b1,b2⟩] at hR
    replace hR:=Lib.hid hR
    go_wp2_with (first | (go_at_call 10;with_reducible refine (q1.out _).mono ?_;rintro r w' ⟨rfl,x,rfl⟩) | (go_at_call 64;with_reducible refine (q2.out _).mono ?_;rintro r w' ⟨rfl,x,rfl⟩) | (go_at_call 11;with_reducible refine (q3.out _).mono ?_;rintro r w' ⟨rfl,x,rfl⟩))
    go_ret
    exact ⟨congrArg (fun z=>Ending.returned (Value.int .i64 z)) hR.out,by rw [hz3.out,plus_plus];exact ⟨_,rfl⟩⟩
   ·rw [if_neg (fun h=>b2 h.2)] at hR
    replace hR:=Lib.hid hR
    have b3:256 < B:=by omega
    clear b2
    go_wp2_with (first | (go_at_call 10;with_reducible refine (q1.out _).mono ?_;rintro r w' ⟨rfl,x,rfl⟩) | (go_at_call 64;with_reducible refine (q2.out _).mono ?_;rintro r w' ⟨rfl,x,rfl⟩) | (go_at_call 11;with_reducible refine (q3.out _).mono ?_;rintro r w' ⟨rfl,x,rfl⟩))
    go_ret
    exact ⟨congrArg (fun z=>Ending.returned (Value.int .i64 z)) hR.out,by rw [hz3.out,plus_plus];exact ⟨_,rfl⟩⟩
  ·rw [if_neg (fun h=>b1 h.1)] at hR
   replace hR:=Lib.hid hR
   go_wp2_with (first | (go_at_call 10;with_reducible refine (q1.out _).mono ?_;rintro r w' ⟨rfl,x,rfl⟩) | (go_at_call 64;with_reducible refine (q2.out _).mono ?_;rintro r w' ⟨rfl,x,rfl⟩) | (go_at_call 11;with_reducible refine (q3.out _).mono ?_;rintro r w' ⟨rfl,x,rfl⟩))
   go_ret
   exact ⟨congrArg (fun z=>Ending.returned (Value.int .i64 z)) hR.out,by rw [hz3.out,plus_plus];exact ⟨_,rfl⟩⟩
 ·rw [if_neg i1] at hR q2
  replace hR:=Lib.hid hR
  clear i1
  go_wp2_with (first | (go_at_call 10;with_reducible refine (q1.out _).mono ?_;rintro r w' ⟨rfl,x,rfl⟩) | (go_at_call 64;with_reducible refine (q2.out _).mono ?_;rintro r w' ⟨rfl,x,rfl⟩) | (go_at_call 11;with_reducible refine (q3.out _).mono ?_;rintro r w' ⟨rfl,x,rfl⟩))
  go_ret
  exact ⟨congrArg (fun z=>Ending.returned (Value.int .i64 z)) hR.out,by rw [hz3.out,plus_plus];exact ⟨_,rfl⟩⟩
end Go.Proofs.YtlmhldcebllckaaGreat
