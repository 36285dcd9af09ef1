/-
  WHAT IS PROVED HERE: a part of the proof (made narrower and merged by program; the parts: Zg Zh Zi Zk Zl).
-/
import Derived.RangeFuncNested
import Derived.RangeFuncBound
import Derived.RangeFuncCalls
import Derived.RangeFuncLeaves
import Derived.OwnWalkIn
import Derived.TacticsInMore
import Derived.LoopNIn
import Derived.LoopIn
import Derived.Test.YtobhijbncchpiaaGreatM18
namespace Go.Proofs.YtobhijbncchpiaaGreat
open Go.RowKit
/-- What is set. -/
def targetI (p:Pr) (hd nm:ByteArray):Int:=if hd.toList == [] then fdI p.metas.l nm else fieldI p (hdI p.headers.l hd) nm
set_option maxRecDepth 100000 in
set_option maxHeartbeats 8000000 in
theorem q_target (p:Pr) (w:World) (h:p.In w) (hz:p.sz≤1048576) (kd:Int) (hd nm:ByteArray) (op lw lh ll:Int) (ehd enm:ByteArray) (hi lo:Int) (ep:Option Addr) (en ec:Nat) (tp:Option Addr) (tn tc:Nat) (up:Option Addr) (un uc:Nat):Kp Tryz.prog w 155 #[.agg #[.slice p.headers.p p.headers.l.length p.headers.cap,.slice p.metas.p p.metas.l.length p.metas.cap,.slice p.states.p p.states.l.length p.states.cap,.slice p.actions.p p.actions.l.length p.actions.cap,.slice p.tables.p p.tables.l.length p.tables.cap,.slice p.control.p p.control.l.length p.control.cap,.slice p.emit.p p.emit.l.length p.emit.cap],.agg #[.int .u8 kd,.string hd,.string nm,.int .u8 op,.int .i64 lw,.int .u64 lh,.int .u64 ll,.string ehd,.string enm,.int .i64 hi,.int .i64 lo,.slice ep en ec,.slice tp tn tc,.slice up un uc]] (.int .i64 (targetI p hd nm)):=by
 have k1:=q_Header p w h hz hd
 have k2:=q_Field p w h hz (hdI p.headers.l hd) nm
 have k3:=q_Meta p w h hz nm
 obtain⟨R,hR⟩:∃ R,targetI p hd nm=R:=⟨_,rfl⟩
 rw [hR]
 unfold targetI at hR
 generalize fieldI p (hdI p.headers.l hd) nm=I2 at k2 hR
 generalize hdI p.headers.l hd=I1 at k1 k2
 generalize fdI p.metas.l nm=I3 at k3 hR
 replace hR:=Lib.hid hR
 intro y0
 have k1:=k1.up y0
 have k2:=k2.up y0
 have k3:=k3.up y0
 obtain⟨V,hV⟩:∃ V,plus w y0=V:=⟨_,rfl⟩
 simp only [hV] at k1 k2 k3 ⊢
 clear hV h hz
 have k1':=Lib.hid k1
 have k2':=Lib.hid k2
 have k3':=Lib.hid k3
 clear k1 k2 k3
 go_enter Tryz.func155,Tryz.ntmps155
 go_upto_region 1 with (fail)
 obtain⟨W,yy,hW,⟨z,hz2⟩,cp,cs⟩:=box2n V _ _ 30 47
 rw [hW]
 have p0:=cp 0 _ rfl
 have p1:=cp 1 _ rfl
 have p2:=cp 2 _ rfl
 have p3:=cp 3 _ rfl
 have p4:=cp 4 _ rfl
 have p5:=cp 5 _ rfl
 have p6:=cp 6 _ rfl
 have s0:=cs 0 _ rfl
 have s1:=cs 1 _ rfl
 have s2:=cs 2 _ rfl
 have s3:=cs 3 _ rfl
 have s4:=cs 4 _ rfl
 have s5:=cs 5 _ rfl
 have s6:=cs 6 _ rfl
 have s7:=cs 7 _ rfl
 have s8:=cs 8 _ rfl
 have s9:=cs 9 _ rfl
 have s10:=cs 10 _ rfl
 have s11:=cs 11 _ rfl
 have s12:=cs 12 _ rfl
 have s13:=cs 13 _ rfl
 have qk1:=Lib.hid (kp_at hz2 k1'.out)
 have qk2:=Lib.hid (kp_at hz2 k2'.out)
 have qk3:=Lib.hid (kp_at hz2 k3'.out)
 have hz3:=Lib.hid hz2
 clear hW hz2 cp cs k1' k2' k3'
 replace hR:=hR.out
 by_cases e:(hd.toList == ([]:List UInt8))=true
 ·rw [if_pos e] at hR
  replace hR:=Lib.hid hR
  have e2:hd.toList.isEmpty=true:=by simpa using e
  clear qk1 qk2
  go_wp2_with (first|(go_at_call 84;with_reducible refine (qk3.out _).mono ?_;rintro r w' ⟨rfl,x,rfl⟩))
  go_ret
  exact⟨congrArg (fun z=>Ending.returned (Value.int .i64 z)) hR.out,by rw [hz3.out,plus_plus];exact⟨_,rfl⟩⟩
 ·have e1:(hd.toList == ([]:List UInt8))=false:=by simpa using e
  rw [if_neg e] at hR
  replace hR:=Lib.hid hR
  have e2:hd.toList.isEmpty=false:=by simpa using e
  clear e qk3
  go_upto_region 3 with (fail)
  refine wp_region_own (by kernel_rfl) (by kernel_rfl) ?_
  repeat (go_big_quiet_step (first|(with_reducible exact qk1.out _)|(with_reducible exact qk2.out _)))
  refine wpQuiet_nil ?_
  rintro _ ⟨y2,rfl⟩
  go_wp2
  go_ret
  exact⟨congrArg (fun z=>Ending.returned (Value.int .i64 z)) hR.out,by rw [hz3.out,plus_plus];exact⟨_,rfl⟩⟩
/-- What is wrong with a statement; N: what is wrong with the names in its expression. -/
def wStI (p:Pr) (act:Int) (kd:Int) (hd nm:ByteArray) (N:Int):Int :=
 if kd=1 then (if targetI p hd nm=-1 then 7 else N) else if kd=3 then (if act=-1 then (if taI p.tables.l nm=-1 then 7 else 0) else 9) else if kd=6∨kd=7 then (if hdI p.headers.l hd=-1 then 7 else 0) else N
set_option maxRecDepth 100000 in
set_option maxHeartbeats 8000000 in
theorem q_wrongStmt (p:Pr) (w:World) (h:p.In w) (hz:p.sz≤1048576) (act:Int) (kd:Int) (hd nm:ByteArray) (op lw lh ll:Int) (ehd enm:ByteArray) (hi lo:Int) (ep:Option Addr) (en ec:Nat) (tp:Option Addr) (tn tc:Nat) (up:Option Addr) (un uc:Nat) (N:Int) (kN:Kp Tryz.prog w 94 #[.agg #[.slice p.headers.p p.headers.l.length p.headers.cap,.slice p.metas.p p.metas.l.length p.metas.cap,.slice p.states.p p.states.l.length p.states.cap,.slice p.actions.p p.actions.l.length p.actions.cap,.slice p.tables.p p.tables.l.length p.tables.cap,.slice p.control.p p.control.l.length p.control.cap,.slice p.emit.p p.emit.l.length p.emit.cap],.int .i64 act,.agg #[.int .u8 op,.int .i64 lw,.int .u64 lh,.int .u64 ll,.string ehd,.string enm,.int .i64 hi,.int .i64 lo,.slice ep en ec]] (.int .i64 N)):Kp Tryz.prog w 92 #[.agg #[.slice p.headers.p p.headers.l.length p.headers.cap,.slice p.metas.p p.metas.l.length p.metas.cap,.slice p.states.p p.states.l.length p.states.cap,.slice p.actions.p p.actions.l.length p.actions.cap,.slice p.tables.p p.tables.l.length p.tables.cap,.slice p.control.p p.control.l.length p.control.cap,.slice p.emit.p p.emit.l.length p.emit.cap],.int .i64 act,.agg #[.int .u8 kd,.string hd,.string nm,.int .u8 op,.int .i64 lw,.int .u64 lh,.int .u64 ll,.string ehd,.string enm,.int .i64 hi,.int .i64 lo,.slice ep en ec,.slice tp tn tc,.slice up un uc]] (.int .i64 (wStI p act kd hd nm N)):=by
 have k1:=q_target p w h hz kd hd nm op lw lh ll ehd enm hi lo ep en ec tp tn tc up un uc
 have k2:=q_known (targetI p hd nm) w
 have k3:=q_Table p w h hz nm
 have k4:=q_known (taI p.tables.l nm) w
 have k5:=q_Header p w h hz hd
 have k6:=q_known (hdI p.headers.l hd) w
 obtain⟨R,hR⟩:∃ R,wStI p act kd hd nm N=R:=⟨_,rfl⟩
 rw [hR]
 unfold wStI at hR
 generalize targetI p hd nm=I1 at k1 k2 hR
 generalize taI p.tables.l nm=I2 at k3 k4 hR
 generalize hdI p.headers.l hd=I3 at k5 k6 hR
 generalize (if I2=-1 then (7:Int) else 0)=K2 at k4 hR
 generalize (if I3=-1 then (7:Int) else 0)=K3 at k6 hR
 have g1:=Lib.hid (show kd=1→(if I1=-1 then 7 else N)=R from fun e=>by have t:=hR;rw [if_pos e] at t;exact t)
 have g3:=Lib.hid (show kd=3→(if act=-1 then K2 else 9)=R from fun e=>by have t:=hR;rw [if_neg (show ¬ kd=1 by omega),if_pos e] at t;exact t)
 have g6:=Lib.hid (show kd=6∨kd=7→K3=R from fun e=>by have t:=hR;rw [if_neg (show ¬ kd=1 by omega),if_neg (show ¬ kd=3 by omega),if_pos e] at t;exact t)
 have g0:=Lib.hid (show kd≠1→kd≠3→kd≠6→kd≠7→N=R from fun e1 e3 e6 e7=>by have t:=hR;rw [if_neg e1,if_neg e3,if_neg (show ¬ (kd=6∨kd=7) by omega)] at t;exact t)
 clear hR
 intro y0
 have k1:=k1.up y0
 have k2:=k2.up y0
 have k3:=k3.up y0
 have k4:=k4.up y0
 have k5:=k5.up y0
 have k6:=k6.up y0
 have kN:=kN.up y0
 obtain⟨V,hV⟩:∃ V,plus w y0=V:=⟨_,rfl⟩
 simp only [hV] at k1 k2 k3 k4 k5 k6 kN ⊢
 clear hV h hz
 have k1':=Lib.hid k1
 have k2':=Lib.hid k2
 have k3':=Lib.hid k3
 have k4':=Lib.hid k4
 have k5':=Lib.hid k5
 have k6':=Lib.hid k6
 have kN':=Lib.hid kN
 clear k1 k2 k3 k4 k5 k6 kN
 go_enter Tryz.func92,Tryz.ntmps92
 go_upto_region 1 with (fail)
 obtain⟨W,yy,hW,⟨z,hz2⟩,cp,cs⟩:=box2n V _ _ 30 47
 rw [hW]
 have p0:=cp 0 _ rfl
 have p1:=cp 1 _ rfl
 have p2:=cp 2 _ rfl
 have p3:=cp 3 _ rfl
 have p4:=cp 4 _ rfl
 have p5:=cp 5 _ rfl
 have p6:=cp 6 _ rfl
 have s0:=cs 0 _ rfl
 have s1:=cs 1 _ rfl
 have s2:=cs 2 _ rfl
 have s3:=cs 3 _ rfl
 have s4:=cs 4 _ rfl
 have s5:=cs 5 _ rfl
 have s6:=cs 6 _ rfl
 have s7:=cs 7 _ rfl
 have s8:=cs 8 _ rfl
 have s9:=cs 9 _ rfl
 have s10:=cs 10 _ rfl
 have s11:=cs 11 _ rfl
 have s12:=cs 12 _ rfl
 have s13:=cs 13 _ rfl
 have qk1:=Lib.hid (kp_at hz2 k1'.out)
 have qk2:=Lib.hid (kp_at hz2 k2'.out)
 have qk3:=Lib.hid (kp_at hz2 k3'.out)
 have qk4:=Lib.hid (kp_at hz2 k4'.out)
 have qk5:=Lib.hid (kp_at hz2 k5'.out)
 have qk6:=Lib.hid (kp_at hz2 k6'.out)
 have qkN:=Lib.hid (kp_at hz2 kN'.out)
 have hz3:=Lib.hid hz2
 clear hW hz2 cp cs k1' k2' k3' k4' k5' k6' kN'
 by_cases o1:kd=1
 ·have hR:=g1.out o1
  clear g0 g1 g3 g6
  subst o1
  clear qk3 qk4 qk5 qk6
  by_cases i1:I1=-1
  ·subst i1
   rw [if_pos rfl] at hR
   rw [if_pos rfl] at qk2
   replace hR:=Lib.hid hR
   go_wp2_with (first|(go_at_call 155;with_reducible refine (qk1.out _).mono ?_;rintro r w' ⟨rfl,x,rfl⟩)|(go_at_call 86;with_reducible refine (qk2.out _).mono ?_;rintro r w' ⟨rfl,x,rfl⟩))
   go_ret
   exact⟨congrArg (fun z=>Ending.returned (Value.int .i64 z)) hR.out,by rw [hz3.out,plus_plus];exact⟨_,rfl⟩⟩
  ·rw [if_neg i1] at hR
   rw [if_neg i1] at qk2
   replace hR:=Lib.hid hR
   clear i1
   go_wp2_with (first|(go_at_call 155;with_reducible refine (qk1.out _).mono ?_;rintro r w' ⟨rfl,x,rfl⟩)|(go_at_call 86;with_reducible refine (qk2.out _).mono ?_;rintro r w' ⟨rfl,x,rfl⟩)|(go_at_call 94;with_reducible refine (qkN.out _).mono ?_;rintro r w' ⟨rfl,x,rfl⟩))
   go_ret
   exact⟨congrArg (fun z=>Ending.returned (Value.int .i64 z)) hR.out,by rw [hz3.out,plus_plus];exact⟨_,rfl⟩⟩
 have n1:(kd == 1)=false:=by simpa using o1
 by_cases o3:kd=3
 ·have hR:=g3.out o3
  clear g0 g1 g3 g6
  subst o3
  clear qk1 qk2 qk5 qk6 qkN
  by_cases a1:act=-1
  ·subst a1
   rw [if_pos rfl] at hR
   replace hR:=Lib.hid hR
   clear o1
   go_wp2_with (first|(go_at_call 93;with_reducible refine (qk3.out _).mono ?_;rintro r w' ⟨rfl,x,rfl⟩)|(go_at_call 86;with_reducible refine (qk4.out _).mono ?_;rintro r w' ⟨rfl,x,rfl⟩))
   go_ret
   exact⟨congrArg (fun z=>Ending.returned (Value.int .i64 z)) hR.out,by rw [hz3.out,plus_plus];exact⟨_,rfl⟩⟩
  ·rw [if_neg a1] at hR
   replace hR:=Lib.hid hR
   have a2:(act != -1)=true:=by simpa using a1
   clear o1 a1 qk3 qk4
   go_wp2_with (fail)
   go_ret
   exact⟨congrArg (fun z=>Ending.returned (Value.int .i64 z)) hR.out,by rw [hz3.out,plus_plus];exact⟨_,rfl⟩⟩
 have n3:(kd == 3)=false:=by simpa using o3
 by_cases o6:kd=6
 ·have hR:=Lib.hid (g6.out (.inl o6))
  clear g0 g1 g3 g6
  subst o6
  clear qk1 qk2 qk3 qk4 qkN o1 o3
  go_wp2_with (first|(go_at_call 87;with_reducible refine (qk5.out _).mono ?_;rintro r w' ⟨rfl,x,rfl⟩)|(go_at_call 86;with_reducible refine (qk6.out _).mono ?_;rintro r w' ⟨rfl,x,rfl⟩))
  go_ret
  exact⟨congrArg (fun z=>Ending.returned (Value.int .i64 z)) hR.out,by rw [hz3.out,plus_plus];exact⟨_,rfl⟩⟩
 have n6:(kd == 6)=false:=by simpa using o6
 by_cases o7:kd=7
 ·have hR:=Lib.hid (g6.out (.inr o7))
  clear g0 g1 g3 g6
  subst o7
  clear qk1 qk2 qk3 qk4 qkN o1 o3 o6
  go_wp2_with (first|(go_at_call 87;with_reducible refine (qk5.out _).mono ?_;rintro r w' ⟨rfl,x,rfl⟩)|(go_at_call 86;with_reducible refine (qk6.out _).mono ?_;rintro r w' ⟨rfl,x,rfl⟩))
  go_ret
  exact⟨congrArg (fun z=>Ending.returned (Value.int .i64 z)) hR.out,by rw [hz3.out,plus_plus];exact⟨_,rfl⟩⟩
 have n7:(kd == 7)=false:=by simpa using o7
 have hR:=Lib.hid (g0.out o1 o3 o6 o7)
 clear g0 g1 g3 g6 qk1 qk2 qk3 qk4 qk5 qk6 o1 o3 o6 o7
 go_wp2_with (first|(go_at_call 94;with_reducible refine (qkN.out _).mono ?_;rintro r w' ⟨rfl,x,rfl⟩))
 go_ret
 exact⟨congrArg (fun z=>Ending.returned (Value.int .i64 z)) hR.out,by rw [hz3.out,plus_plus];exact⟨_,rfl⟩⟩
set_option maxRecDepth 100000 in
set_option maxHeartbeats 8000000 in
theorem q_wrongListed (m:Int) (A:Sl ByteArray) (k:Nat) (s:ByteArray) (hs:A.l[k]?=some s) (w:World) (hA:A.In w 1 strCells strOk) (hl:A.l.length≤1048576):Kp Tryz.prog w 95 #[.int .i64 m,A.v,.int .i64 (k:Int)] (.int .i64 (if m=-1 then 7 else if nmI A.l s=(k:Int) then 0 else 8)):=by
 intro y0
 have k1:=(q_known m w).up y0
 have k2:=(res_firstName strOk A s w hA hl).up y0
 have k3:=(q_alone (nmI A.l s) (k:Int) w).up y0
 have hr:=hA.row.plus y0
 obtain⟨V,hV⟩:∃ V,plus w y0=V:=⟨_,rfl⟩
 rw [hV] at k1 k2 k3 hr ⊢
 clear hV hA
 obtain⟨pa,ha,hc⟩:=hr k s hs
 have hk:k < A.l.length:=(List.getElem?_eq_some_iff.1 hs).1
 obtain⟨ap,ac,al⟩:=A
 simp only [Sl.v] at ha hk k2 k3 hl ⊢
 subst ha
 generalize nmI al s=I at k2 k3 ⊢
 generalize (if I=(k:Int) then (0:Int) else 8)=K at k3 ⊢
 have d0:=fun y=>(hc.plus y).c0 _ rfl
 simp only [Nat.mul_one] at d0
 obtain⟨n,hn⟩:∃ n,al.length=n:=⟨_,rfl⟩
 rw [hn] at hk k2 ⊢
 have k1':=Lib.hid k1.pure
 have k2':=Lib.hid k2.pure
 have k3':=Lib.hid k3.pure
 have e0:=d0 ⟨#[],V.drawn⟩
 rw [plus_self] at e0
 have hV:=plus_self V
 have hV2:=Lib.hid hV
 clear k1 k2 k3 hr hc hs hn hl hV
 go_enter Tryz.func95,Tryz.ntmps95
 by_cases hm:m=-1
 ·subst hm
  rw [if_pos rfl] at k1'
  rw [if_pos rfl]
  clear k2' k3'
  rw [← hV2.out]
  go_wp2_with (first|(go_at_call 86;with_reducible refine (k1'.out _).mono ?_;rintro r w' ⟨rfl,x,rfl⟩))
  go_ret
  exact⟨rfl,_,rfl⟩
 ·rw [if_neg hm] at k1'
  rw [if_neg hm]
  clear hm
  rw [← hV2.out]
  go_wp2_with (first|(go_at_call 86;with_reducible refine (k1'.out _).mono ?_;rintro r w' ⟨rfl,x,rfl⟩)|(go_at_call 162;with_reducible refine (k2'.out _).mono ?_;rintro r w' ⟨rfl,x,rfl⟩)|(go_at_call 82;with_reducible refine (k3'.out _).mono ?_;rintro r w' ⟨rfl,x,rfl⟩))
  go_ret
  exact⟨rfl,_,rfl⟩
theorem lift_cell {W W2:World} {z:Ext} {a:Addr} {v:Option Value} (hz:W2=plus W z) (h:∀ y,(plus W y).cell? a=v):∀ y,(plus W2 y).cell? a=v:=fun y=>by rw [hz,plus_plus];exact h _
/-- What is wrong with a header. -/
def wHdI (p:Pr) (k:Nat) (x:Hr):Int:=if hdI p.headers.l x.name=(k:Int) then (if (bitsI x.fields.l).tmod 8=0∧bitsI x.fields.l≤256 then 0 else 10) else 8
set_option maxRecDepth 100000 in
set_option maxHeartbeats 8000000 in
theorem q_wrongHeader (p:Pr) (w:World) (h:p.In w) (hz:p.sz≤1048576) (k:Nat) (x:Hr) (hx:p.headers.l[k]?=some x):Kp Tryz.prog w 81 #[.agg #[.slice p.headers.p p.headers.l.length p.headers.cap,.slice p.metas.p p.metas.l.length p.metas.cap,.slice p.states.p p.states.l.length p.states.cap,.slice p.actions.p p.actions.l.length p.actions.cap,.slice p.tables.p p.tables.l.length p.tables.cap,.slice p.control.p p.control.l.length p.control.cap,.slice p.emit.p p.emit.l.length p.emit.cap],.int .i64 (k:Int)] (.int .i64 (wHdI p k x)):=by
 intro y0
 have hmem:=List.mem_of_getElem? hx
 have hlen:x.fields.l.length≤1048576:=by
  have h1:=le_sum_of Hr.sz p.headers.l x hmem
  have h2:p.sz=p.headers.size Hr.sz+p.metas.size Fd.sz+p.states.size Sa.sz+p.actions.size Ac.sz+p.tables.size Ta.sz+p.control.size St.sz+p.emit.size strSize:=rfl
  have h3:p.headers.size Hr.sz=(p.headers.l.map Hr.sz).sum:=rfl
  have h4:x.fields.size Fd.sz≤x.sz:=by unfold Hr.sz;omega
  exact len_le Fd.sz Fd.sz_pos x.fields (by omega)
 have k1:=(q_Header p w h hz x.name).up y0
 have k2:=(q_alone (hdI p.headers.l x.name) (k:Int) w).up y0
 have k3:=(q_Bits x.name x.fields w _ (h.headers.kids x hmem).fields hlen).up y0
 have hr:=h.headers.row.plus y0
 have hkn:k < p.headers.l.length:=(List.getElem?_eq_some_iff.1 hx).1
 obtain⟨V,hV⟩:∃ V,plus w y0=V:=⟨_,rfl⟩
 rw [hV] at k1 k2 k3 hr ⊢
 clear hV h hz hlen
 obtain⟨R,hR⟩:∃ R,wHdI p k x=R:=⟨_,rfl⟩
 rw [hR]
 unfold wHdI at hR
 obtain⟨pa,ha,hc⟩:=hr k x hx
 obtain⟨A,hA⟩:∃ A,p.headers=A:=⟨_,rfl⟩
 simp only [hA] at k1 k2 hR ha hkn ⊢
 clear hA hx hmem hr
 obtain⟨ap,ac,al⟩:=A
 simp only at ha
 subst ha
 simp only at hkn hR k1 k2 ⊢
 generalize hdI al x.name=I at k1 k2 hR
 generalize bitsI x.fields.l=B at k3 hR
 obtain⟨n,hn⟩:∃ n,al.length=n:=⟨_,rfl⟩
 rw [hn] at hkn k1 ⊢
 clear hn
 obtain⟨xn,⟨fp,fc,fl⟩⟩:=x
 simp only [Hr.cells,Sl.v] at hc k1 k3
 have d0:=fun y=>(hc.plus y).c0 _ rfl
 have d1:=fun y=>(hc.plus y).cs 0 _ rfl
 have hc':=Lib.hid hc
 have k1':=Lib.hid k1
 have k2':=Lib.hid k2
 have k3':=Lib.hid k3
 have hR':=Lib.hid hR
 clear hc k1 k2 k3 hR d0 d1
 go_enter Tryz.func81,Tryz.ntmps81
 go_upto_region 1 with (fail)
 obtain⟨U,hU,hB,-,cp,-⟩:=box1 V _ 30
 rw [← hU]
 obtain⟨z0,hz0⟩:=plus_of_below hB
 have cp0:=cp 0 _ rfl
 have cp1:=cp 1 _ rfl
 have cp2:=cp 2 _ rfl
 have cp3:=cp 3 _ rfl
 have cp4:=cp 4 _ rfl
 have cp5:=cp 5 _ rfl
 have cp6:=cp 6 _ rfl
 have hcU:=cells_up hz0 hc'.out
 have d0:=hcU.c0 _ rfl
 have d1:=hcU.cs 0 _ rfl
 have e0:=cp0 ⟨#[],U.drawn⟩
 rw [plus_self] at e0
 have hcU':=Lib.hid hcU
 have hz0':=Lib.hid hz0
 clear hU hB cp hcU hc' hz0
 go_upto_region 2 with (fail)
 obtain⟨W,hW,hB,-,ch,-⟩:=box1 U _ 66
 rw [← hW]
 obtain⟨z,hz2⟩:=plus_of_below hB
 obtain⟨zV,hzV⟩:∃ x,W=plus V x:=by rw [hz2,hz0'.out,plus_plus];exact⟨_,rfl⟩
 have p0:=lift_cell hz2 cp0
 have p1:=lift_cell hz2 cp1
 have p2:=lift_cell hz2 cp2
 have p3:=lift_cell hz2 cp3
 have p4:=lift_cell hz2 cp4
 have p5:=lift_cell hz2 cp5
 have p6:=lift_cell hz2 cp6
 have h0:=ch 0 _ rfl
 have h1:=ch 1 _ rfl
 have q1:=Lib.hid (kp_at hzV k1'.out)
 have q2:=Lib.hid (kp_at hzV k2'.out)
 have q3:=Lib.hid (kp_at hzV k3'.out)
 have hz3:=Lib.hid hzV
 clear hW hB ch hz2 hzV k1' k2' k3' hcU' d0 d1 e0 hz0' cp0 cp1 cp2 cp3 cp4 cp5 cp6
 have w0:=plus_self W
 rw [← w0]
 have hR:=hR'.out
 clear hR' w0
 by_cases i1:I=(k:Int)
 ·rw [if_pos i1] at hR q2
  subst i1
  by_cases b1:B.tmod 8=0
  ·by_cases b2:B≤256
   ·rw [if_pos ⟨b1,b2⟩] at hR
    replace hR:=Lib.hid hR
    go_wp2_with (first|(go_at_call 87;with_reducible refine (q1.out _).mono ?_;rintro r w' ⟨rfl,x,rfl⟩)|(go_at_call 82;with_reducible refine (q2.out _).mono ?_;rintro r w' ⟨rfl,x,rfl⟩)|(go_at_call 147;with_reducible refine (q3.out _).mono ?_;rintro r w' ⟨rfl,x,rfl⟩))
    go_ret
    exact⟨congrArg (fun z=>Ending.returned (Value.int .i64 z)) hR.out,by rw [hz3.out,plus_plus];exact⟨_,rfl⟩⟩
   ·rw [if_neg (fun h=>b2 h.2)] at hR
    replace hR:=Lib.hid hR
    have b3:256 < B:=by omega
    clear b2
    go_wp2_with (first|(go_at_call 87;with_reducible refine (q1.out _).mono ?_;rintro r w' ⟨rfl,x,rfl⟩)|(go_at_call 82;with_reducible refine (q2.out _).mono ?_;rintro r w' ⟨rfl,x,rfl⟩)|(go_at_call 147;with_reducible refine (q3.out _).mono ?_;rintro r w' ⟨rfl,x,rfl⟩))
    go_ret
    exact⟨congrArg (fun z=>Ending.returned (Value.int .i64 z)) hR.out,by rw [hz3.out,plus_plus];exact⟨_,rfl⟩⟩
  ·rw [if_neg (fun h=>b1 h.1)] at hR
   replace hR:=Lib.hid hR
   go_wp2_with (first|(go_at_call 87;with_reducible refine (q1.out _).mono ?_;rintro r w' ⟨rfl,x,rfl⟩)|(go_at_call 82;with_reducible refine (q2.out _).mono ?_;rintro r w' ⟨rfl,x,rfl⟩)|(go_at_call 147;with_reducible refine (q3.out _).mono ?_;rintro r w' ⟨rfl,x,rfl⟩))
   go_ret
   exact⟨congrArg (fun z=>Ending.returned (Value.int .i64 z)) hR.out,by rw [hz3.out,plus_plus];exact⟨_,rfl⟩⟩
 ·rw [if_neg i1] at hR q2
  replace hR:=Lib.hid hR
  clear i1
  go_wp2_with (first|(go_at_call 87;with_reducible refine (q1.out _).mono ?_;rintro r w' ⟨rfl,x,rfl⟩)|(go_at_call 82;with_reducible refine (q2.out _).mono ?_;rintro r w' ⟨rfl,x,rfl⟩)|(go_at_call 147;with_reducible refine (q3.out _).mono ?_;rintro r w' ⟨rfl,x,rfl⟩))
  go_ret
  exact⟨congrArg (fun z=>Ending.returned (Value.int .i64 z)) hR.out,by rw [hz3.out,plus_plus];exact⟨_,rfl⟩⟩
/-- What is wrong with a default: x: the action that it names. -/
def wDfI (names:List ByteArray) (dn:ByteArray) (args params:Nat):Int:=if nmI names dn=-1 then 7 else if args < params then 13 else if params < args then 5 else 0
set_option maxRecDepth 100000 in
set_option maxHeartbeats 8000000 in
theorem q_wrongDefault_none (p:Pr) (w:World) (tn:ByteArray) (kp:Option Addr) (kn kc:Nat) (L:Sl ByteArray) (dn:ByteArray) (gp:Option Addr) (gn gc:Nat) (hL:L.In w 1 strCells strOk) (hl:L.l.length≤1048576) (hno:nmI L.l dn=-1) :
  Kp Tryz.prog w 96 #[.agg #[.slice p.headers.p p.headers.l.length p.headers.cap,.slice p.metas.p p.metas.l.length p.metas.cap,.slice p.states.p p.states.l.length p.states.cap,.slice p.actions.p p.actions.l.length p.actions.cap,.slice p.tables.p p.tables.l.length p.tables.cap,.slice p.control.p p.control.l.length p.control.cap,.slice p.emit.p p.emit.l.length p.emit.cap],.agg #[.string tn,.slice kp kn kc,L.v,.string dn,.slice gp gn gc]] (.int .i64 7):=by
 have k1:=res_firstName strOk L dn w hL hl
 rw [hno] at k1
 obtain⟨lp,lc,ll⟩:=L
 simp only [Sl.v] at k1 ⊢
 generalize ll.length=n at k1 ⊢
 intro y0
 have k1:=k1.up y0
 obtain⟨V,hV⟩:∃ V,plus w y0=V:=⟨_,rfl⟩
 simp only [hV] at k1 ⊢
 clear hV hL hl hno
 have k1':=Lib.hid k1
 clear k1
 go_enter Tryz.func96,Tryz.ntmps96
 go_upto_region 1 with (fail)
 obtain⟨W,yy,hW,⟨z,hz2⟩,cp,ct⟩:=box2n V _ _ 30 58
 rw [hW]
 have p0:=cp 0 _ rfl
 have p1:=cp 1 _ rfl
 have p2:=cp 2 _ rfl
 have p3:=cp 3 _ rfl
 have p4:=cp 4 _ rfl
 have p5:=cp 5 _ rfl
 have p6:=cp 6 _ rfl
 have t0:=ct 0 _ rfl
 have t1:=ct 1 _ rfl
 have t2:=ct 2 _ rfl
 have t3:=ct 3 _ rfl
 have t4:=ct 4 _ rfl
 have qk1:=Lib.hid (kp_at hz2 k1'.out)
 have hz3:=Lib.hid hz2
 clear hW hz2 cp ct k1'
 go_wp2_with (first|(go_at_call 162;with_reducible refine (qk1.out _).mono ?_;rintro r w' ⟨rfl,x,rfl⟩))
 go_ret
 exact⟨rfl,by rw [hz3.out,plus_plus];exact⟨_,rfl⟩⟩
set_option maxRecDepth 100000 in
set_option maxHeartbeats 8000000 in
theorem q_wrongDefault_some (p:Pr) (w:World) (h:p.In w) (hz:p.sz≤1048576) (tn:ByteArray) (kp:Option Addr) (kn kc:Nat) (L:Sl ByteArray) (dn:ByteArray) (gp:Option Addr) (gn gc:Nat) (hL:L.In w 1 strCells strOk) (hl:L.l.length≤1048576) (hno:nmI L.l dn≠-1)
  (k:Nat) (x:Ac) (hk:acI p.actions.l dn=(k:Int)) (hx:p.actions.l[k]?=some x) :
  Kp Tryz.prog w 96 #[.agg #[.slice p.headers.p p.headers.l.length p.headers.cap,.slice p.metas.p p.metas.l.length p.metas.cap,.slice p.states.p p.states.l.length p.states.cap,.slice p.actions.p p.actions.l.length p.actions.cap,.slice p.tables.p p.tables.l.length p.tables.cap,.slice p.control.p p.control.l.length p.control.cap,.slice p.emit.p p.emit.l.length p.emit.cap],.agg #[.string tn,.slice kp kn kc,L.v,.string dn,.slice gp gn gc]] (.int .i64 (wDfI L.l dn gn x.params.l.length)):=by
 intro y0
 have k1:=(res_firstName strOk L dn w hL hl).up y0
 have k2:=(q_Action p w h hz dn).up y0
 rw [hk] at k2
 have hr:=h.actions.row.plus y0
 have hkn:k < p.actions.l.length:=(List.getElem?_eq_some_iff.1 hx).1
 have hsz:x.params.l.length≤1048576:=by
  have h1:=le_sum_of Ac.sz p.actions.l x (List.mem_of_getElem? hx)
  have h2:p.sz=p.headers.size Hr.sz+p.metas.size Fd.sz+p.states.size Sa.sz+p.actions.size Ac.sz+p.tables.size Ta.sz+p.control.size St.sz+p.emit.size strSize:=rfl
  have h3:p.actions.size Ac.sz=(p.actions.l.map Ac.sz).sum:=rfl
  have h4:x.params.size Fd.sz≤x.sz:=by unfold Ac.sz;omega
  exact len_le Fd.sz Fd.sz_pos x.params (by omega)
 obtain⟨V,hV⟩:∃ V,plus w y0=V:=⟨_,rfl⟩
 rw [hV] at k1 k2 hr ⊢
 clear hV h hz hL hl
 obtain⟨R,hR⟩:∃ R,wDfI L.l dn gn x.params.l.length=R:=⟨_,rfl⟩
 rw [hR]
 unfold wDfI at hR
 rw [if_neg hno] at hR
 obtain⟨pa,ha,hc⟩:=hr k x hx
 obtain⟨A,hA⟩:∃ A,p.actions=A:=⟨_,rfl⟩
 simp only [hA] at k2 ha hkn ⊢
 clear hA hx hr hk
 obtain⟨ap,ac,al⟩:=A
 simp only at ha
 subst ha
 simp only at hkn k2 ⊢
 obtain⟨lp,lc,ll⟩:=L
 simp only [Sl.v] at k1 hno ⊢
 generalize nmI ll dn=I at k1 hno
 generalize ll.length=m at k1 ⊢
 generalize al.length=n at hkn k2 ⊢
 obtain⟨xn,⟨xp,xc,xl⟩,xb⟩:=x
 simp only at hR hsz
 simp only [Ac.cells,Sl.v] at hc
 generalize xl.length=j at hR hsz hc
 have i1:(I == -1)=false:=by simpa using hno
 have k1':=Lib.hid k1
 have k2':=Lib.hid k2
 have hc':=Lib.hid hc
 have hR':=Lib.hid hR
 clear hc k1 k2 hR hno
 go_enter Tryz.func96,Tryz.ntmps96
 go_upto_region 1 with (fail)
 obtain⟨W,yy,hW,⟨z,hz2⟩,cp,ct⟩:=box2n V _ _ 30 58
 rw [hW]
 have cp0:=cp 0 _ rfl
 have cp1:=cp 1 _ rfl
 have cp2:=cp 2 _ rfl
 have cp3:=cp 3 _ rfl
 have cp4:=cp 4 _ rfl
 have cp5:=cp 5 _ rfl
 have cp6:=cp 6 _ rfl
 have ct0:=ct 0 _ rfl
 have ct1:=ct 1 _ rfl
 have ct2:=ct 2 _ rfl
 have ct3:=ct 3 _ rfl
 have ct4:=ct 4 _ rfl
 have hcW:=cells_up hz2 hc'.out
 have d1:=fun y=>(hcW.plus y).cs 0 _ rfl
 have q1:=Lib.hid (kp_at hz2 k1'.out)
 have q2:=Lib.hid (kp_at hz2 k2'.out)
 have hz3:=Lib.hid hz2
 clear hW hz2 cp ct hcW hc' k1' k2'
 go_upto_region 3 with (first|(go_at_call 162;with_reducible refine (q1.out _).mono ?_;rintro r w' ⟨rfl,x,rfl⟩))
 refine wp_region_own (by kernel_rfl) (by kernel_rfl) ?_
 repeat (go_big_quiet_step (first|(with_reducible exact q2.out _)))
 refine wpQuiet_nil ?_
 rintro _ ⟨y2,rfl⟩
 have hR:=hR'.out
 clear hR' q1 q2 i1
 by_cases b1:gn < j
 ·rw [if_pos b1] at hR
  replace hR:=Lib.hid hR
  go_wp2
  go_ret
  exact⟨congrArg (fun z=>Ending.returned (Value.int .i64 z)) hR.out,by rw [hz3.out,plus_plus];exact⟨_,rfl⟩⟩
 ·rw [if_neg b1] at hR
  by_cases b2:j < gn
  ·rw [if_pos b2] at hR
   replace hR:=Lib.hid hR
   go_wp2
   go_ret
   exact⟨congrArg (fun z=>Ending.returned (Value.int .i64 z)) hR.out,by rw [hz3.out,plus_plus];exact⟨_,rfl⟩⟩
  ·rw [if_neg b2] at hR
   replace hR:=Lib.hid hR
   go_wp2
   go_ret
   exact⟨congrArg (fun z=>Ending.returned (Value.int .i64 z)) hR.out,by rw [hz3.out,plus_plus];exact⟨_,rfl⟩⟩
/-- What is wrong with a transition. -/
def wNxI (p:Pr) (s:Sa):Int:=if s.keys.l.length=0 then (if (stI p.states.l s.to).2 then 0 else 7) else if s.keys.l.all (Ex.there (isB p (-1))) then 0 else 7
set_option maxRecDepth 100000 in
set_option maxHeartbeats 8000000 in
theorem q_wrongNext (p:Pr) (w:World) (h:p.In w) (hz:p.sz≤1048576) (s:Sa) (hs:s.In w) (hsz:s.sz≤1048576):Kp Tryz.prog w 88 #[.agg #[.slice p.headers.p p.headers.l.length p.headers.cap,.slice p.metas.p p.metas.l.length p.metas.cap,.slice p.states.p p.states.l.length p.states.cap,.slice p.actions.p p.actions.l.length p.actions.cap,.slice p.tables.p p.tables.l.length p.tables.cap,.slice p.control.p p.control.l.length p.control.cap,.slice p.emit.p p.emit.l.length p.emit.cap],.agg s.cells.toArray] (.int .i64 (wNxI p s)):=by
 intro y0
 have k1:=(q_wrongTarget p w h hz s.to).up y0
 have lK:s.keys.l.length≤1048576:=len_le Ex.wt Ex.wt_pos s.keys (n:=1048576) (by unfold Sa.sz at hsz;omega)
 have kN:∀ x ∈ s.keys.l,Kp Tryz.prog w 94 #[.agg #[.slice p.headers.p p.headers.l.length p.headers.cap,.slice p.metas.p p.metas.l.length p.metas.cap,.slice p.states.p p.states.l.length p.states.cap,.slice p.actions.p p.actions.l.length p.actions.cap,.slice p.tables.p p.tables.l.length p.tables.cap,.slice p.control.p p.control.l.length p.control.cap,.slice p.emit.p p.emit.l.length p.emit.cap],.int .i64 (-1),.agg x.cells.toArray] (.int .i64 (if x.there (isB p (-1)) then 0 else 7)):=fun x hx=>by
  have h1:=le_sum_of Ex.wt s.keys.l x hx
  have h2:s.keys.size Ex.wt=(s.keys.l.map Ex.wt).sum:=rfl
  unfold Sa.sz at hsz
  exact q_Names p w h hz (-1) x (hs.keys.kids x hx) (by omega)
 have kN:=fun x hx=>(kN x hx).up y0
 have hr:=hs.keys.row.plus y0
 obtain⟨V,hV⟩:∃ V,plus w y0=V:=⟨_,rfl⟩
 simp only [hV] at k1 kN hr ⊢
 clear hV h hz hs hsz
 obtain⟨R,hR⟩:∃ R,wNxI p s=R:=⟨_,rfl⟩
 rw [hR]
 unfold wNxI at hR
 obtain⟨sn,⟨tp,tc,tl⟩,st,⟨kp,kc,kl⟩,⟨cp,cc,cl⟩⟩:=s
 simp only [Sa.cells,Sl.v] at k1 kN hr hR lK ⊢
 generalize (if (stI p.states.l st).2=true then (0:Int) else 7)=K1 at k1 hR
 obtain⟨n,hn⟩:∃ n,kl.length=n:=⟨_,rfl⟩
 rw [hn] at hR lK ⊢
 generalize isB p (-1)=B at kN hR
 have k1':=Lib.hid k1
 have kN':=Lib.hid kN
 have hr':=Lib.hid hr
 have hR':=Lib.hid hR
 have hn':=Lib.hid hn
 have lK':=Lib.hid lK
 clear k1 kN hr hR hn lK
 go_enter Tryz.func88,Tryz.ntmps88
 go_upto_region 1 with (fail)
 obtain⟨W,yy,hW,⟨z,hz2⟩,cp',ct⟩:=box2n V _ _ 30 61
 rw [hW]
 have ep0:=cp' 0 _ rfl
 have ep1:=cp' 1 _ rfl
 have ep2:=cp' 2 _ rfl
 have ep3:=cp' 3 _ rfl
 have ep4:=cp' 4 _ rfl
 have ep5:=cp' 5 _ rfl
 have ep6:=cp' 6 _ rfl
 have et0:=ct 0 _ rfl
 have et1:=ct 1 _ rfl
 have et2:=ct 2 _ rfl
 have et3:=ct 3 _ rfl
 have et4:=ct 4 _ rfl
 have q1:=Lib.hid (kp_at hz2 k1'.out)
 have hr2:=Lib.hid (fun k x (hx:kl[k]?=some x)=>(show ∃ pa,kp=some pa∧CellsAt W (pa.add (k*9)) x.cells by
  obtain⟨pa,e,hc⟩:=hr'.out k x hx
  exact⟨pa,e,cells_up hz2 hc⟩))
 have qN:=Lib.hid (fun x hx=>kp_at hz2 (kN'.out x hx))
 have hz3:=Lib.hid hz2
 clear hW hz2 cp' ct hr' k1' kN'
 by_cases n0:n=0
 ·have hR:=Lib.hid (show K1=R by rw [← hR'.out,if_pos n0])
  subst n0
  clear hR' hr2 qN
  go_wp2_with (first|(go_at_call 89;with_reducible refine (q1.out _).mono ?_;rintro r w' ⟨rfl,x,rfl⟩))
  go_ret
  exact⟨congrArg (fun z=>Ending.returned (Value.int .i64 z)) hR.out,by rw [hz3.out,plus_plus];exact⟨_,rfl⟩⟩
 have h0:Hid ((if (kl.drop 0).all (Ex.there B)=true then (0:Int) else 7)=R):=Lib.hid (by rw [← hR'.out,if_neg n0];rfl)
 have n1:((n:Int) == 0)=false:=by simpa using n0
 clear hR' q1
 go_upto_region 4 with (fail)
 have ea0:=fun (y:Ext) (X:Obj)=>cell_alloc (v:=.slice p.headers.p p.headers.l.length p.headers.cap) (ep0 y) X
 have ea1:=fun (y:Ext) (X:Obj)=>cell_alloc (v:=.slice p.metas.p p.metas.l.length p.metas.cap) (ep1 y) X
 have ea2:=fun (y:Ext) (X:Obj)=>cell_alloc (v:=.slice p.states.p p.states.l.length p.states.cap) (ep2 y) X
 have ea3:=fun (y:Ext) (X:Obj)=>cell_alloc (v:=.slice p.actions.p p.actions.l.length p.actions.cap) (ep3 y) X
 have ea4:=fun (y:Ext) (X:Obj)=>cell_alloc (v:=.slice p.tables.p p.tables.l.length p.tables.cap) (ep4 y) X
 have ea5:=fun (y:Ext) (X:Obj)=>cell_alloc (v:=.slice p.control.p p.control.l.length p.control.cap) (ep5 y) X
 have ea6:=fun (y:Ext) (X:Obj)=>cell_alloc (v:=.slice p.emit.p p.emit.l.length p.emit.cap) (ep6 y) X
 go_loopw [6,7,19] (fun _ _ iv wr=>∃ k:Nat,k≤n∧iv=.int .i64 (k:Int)∧Hid ((if (kl.drop k).all (Ex.there B)=true then (0:Int) else 7)=R)∧∃ y,wr=plus W y) (fun _ _ iv _=>n - (intOf iv).toNat)
 case atStart=>exact⟨0,Nat.zero_le _,rfl,h0,_,rfl⟩
 case round =>
  obtain⟨k,hk,rfl,hs,y,rfl⟩:=hrel
  by_cases hlt:k < n
  ·obtain⟨a,ha⟩:∃ s,kl[k]?=some s:=⟨kl[k]'(by rw [hn'.out];exact hlt),List.getElem?_eq_getElem _⟩
   obtain⟨pa,rfl,hcW⟩:=hr2.out k a ha
   have hs1:(if (a.there B && (kl.drop (k+1)).all (Ex.there B))=true then (0:Int) else 7)=R:=by rw [← all_drop (Ex.there B) kl k a ha];exact hs.out
   have q2:=qN.out a (List.mem_of_getElem? ha)
   generalize a.there B=b at q2 hs1
   have q2':=Lib.hid q2
   have a6:=Lib.hid (wr_succ k n hlt lK'.out)
   obtain⟨aop,⟨alw,alh,all⟩,ahd,anm,ahi,alo,ap,acap,aargs⟩:=a
   simp only [Ex.cells,Ex.op,Ex.lit,Ex.head,Ex.name,Ex.hi,Ex.lo,Ex.p,Ex.cap,Ex.args] at hcW q2'
   have d0:=fun y=>(hcW.plus y).c0 _ rfl
   have d1:=fun y=>(hcW.plus y).cs 0 _ rfl
   have d2:=fun y=>(hcW.plus y).cs 1 _ rfl
   have d3:=fun y=>(hcW.plus y).cs 2 _ rfl
   have d4:=fun y=>(hcW.plus y).cs 3 _ rfl
   have d5:=fun y=>(hcW.plus y).cs 4 _ rfl
   have d6:=fun y=>(hcW.plus y).cs 5 _ rfl
   have d7:=fun y=>(hcW.plus y).cs 6 _ rfl
   have d8:=fun y=>(hcW.plus y).cs 7 _ rfl
   clear q2 hcW ha hs h0
   cases b with
   | true =>
    have hs2:=Lib.hid (show (if (kl.drop (k+1)).all (Ex.there B)=true then (0:Int) else 7)=R by rw [← hs1,Bool.true_and])
    clear hs1
    rw [if_pos rfl] at q2'
    go_wp2_with (refine pure_call1 q2'.out ?_;rintro e w' ⟨rfl,x,rfl⟩)
    go_roundw
    case rel=>exact⟨k+1,hlt,congrArg (Value.int .i64) a6.out,hs2,x,rfl⟩
    case measure=>exact step_less k n hlt a6.out
   | false =>
    have hR:=Lib.hid (show (7:Int)=R by rw [← hs1,Bool.false_and,if_neg (by decide)])
    clear hs1
    rw [if_neg (by decide)] at q2'
    go_wp2_with (refine pure_call1 q2'.out ?_;rintro e w' ⟨rfl,x,rfl⟩)
    go_ret
    exact⟨congrArg (fun z=>Ending.returned (Value.int .i64 z)) hR.out,by rw [hz3.out,plus_plus];exact⟨_,rfl⟩⟩
  ·obtain rfl:k=n:=by omega
   have hR:=Lib.hid (show (0:Int)=R by
    rw [← hs.out,List.drop_of_length_le (by rw [hn'.out];exact Nat.le_refl _)];rfl)
   clear hs hlt hk h0
   go_wp2
   go_ret
   exact⟨congrArg (fun z=>Ending.returned (Value.int .i64 z)) hR.out,by rw [hz3.out,plus_plus];exact⟨_,rfl⟩⟩
open Go.Shelf
/-- Whatever cell stood in a block that is none of S stands as it stood. -/
structure Kq (S:Nat→Prop) (W W':World):Prop where
 size:W.heap.size≤W'.heap.size
 cell:∀ a v,¬ S a.block→W.cell? a=some v→W'.cell? a=some v
 low:∀ B,B≤W.heap.size→(∀ b,S b→B≤b)→Below B W W'
theorem Kq.refl (S:Nat→Prop) (W:World):Kq S W W:=⟨Nat.le_refl _,fun _ _ _ h=>h,fun B _ _=>Below.refl B W⟩
theorem Kq.trans {S:Nat→Prop} {A B C:World} (h:Kq S A B) (k:Kq S B C):Kq S A C:=⟨Nat.le_trans h.size k.size,fun a v hs hv=>k.cell a v hs (h.cell a v hs hv),fun b hb hs=>(h.low b hb hs).trans (k.low b (Nat.le_trans hb h.size) hs)⟩
theorem Kq.plus (S:Nat→Prop) (W:World) (y:Ext):Kq S W (plus W y):=⟨by have:=size_plus W y;omega,fun _ _ _ h=>cell_keep h y,fun _ hb _=>(below_plus W y).mono hb⟩
theorem Kq.alloc (S:Nat→Prop) (W:World) (o:Obj):Kq S W (W.alloc o):=⟨by simp,fun _ _ _ h=>cell_alloc h o,fun B hb _=>(Below.refl B W).alloc hb o⟩
theorem Kq.setCell {S:Nat→Prop} (W:World) (p:Addr) (v:Value) (h:S p.block):Kq S W (W.setCell p v):=⟨by rw [World.size_setCell];exact Nat.le_refl _,fun a u hs hv=>(World.cell?_setCell_other _ _ _ _ (fun e=>hs (by first|(rw [e];exact h)|(rw [← e];exact h)))).trans hv,fun B _ hs=>(Below.refl B W).setCell (hs _ h) v⟩
section
variable {S:Nat→Prop} {w W:World} (hk:Kq S w W) (hS:∀ b,S b→w.heap.size≤b)
include hk hS
theorem kq_cell {a:Addr} {v:Value} (h:w.cell? a=some v):W.cell? a=some v:=hk.cell a v (fun hs=>by
 have h1:=hS _ hs
 have h2:=World.block_lt_of_cell? w a h
 omega) h
theorem kq_cells {a:Addr} {cs:List Value} (h:CellsAt w a cs):CellsAt W a cs:=fun j v hj=>kq_cell hk hS (h j v hj)
theorem kq_row {α:Type} {C:Nat} {cells:α→List Value} {p:Option Addr} {l:List α} (h:RowAt w C cells p l):RowAt W C cells p l:=fun i y hi=>by
 obtain⟨a,ha,hc⟩:=h i y hi
 exact⟨a,ha,kq_cells hk hS hc⟩
theorem kq_sl {α:Type} {C:Nat} {cells:α→List Value} {In In':α→Prop} {s:Sl α} (h:s.In w C cells In) (hi:∀ y,In y→In' y):s.In W C cells In' :=
 ⟨h.len,h.cap,kq_row hk hS h.row,fun y hy=>hi y (h.kids y hy)⟩
theorem kq_ex:∀ {e:Ex},e.In w→e.In W:=fun {e} h=>by
 induction h with
 | mk e op lit hi lo hd nm len cap row _ ih=>exact .mk e op lit hi lo hd nm len cap (kq_row hk hS row) ih
omit hk hS in
theorem kq_fd {x:Fd} (h:x.In w):x.In W:=⟨h.name,h.w⟩
theorem kq_hr {x:Hr} (h:x.In w):x.In W:=⟨h.name,kq_sl hk hS h.fields (fun _ a=>kq_fd a)⟩
omit hk hS in
theorem kq_se {x:Se} (h:x.In w):x.In W:=⟨h.kind,h.v,h.m⟩
theorem kq_ca {x:Ca} (h:x.In w):x.In W:=⟨h.dflt,kq_sl hk hS h.sets (fun _ a=>kq_se a),h.to⟩
theorem kq_sa {x:Sa} (h:x.In w):x.In W:=⟨h.name,kq_sl hk hS h.takes (fun _ a=>a),h.to,kq_sl hk hS h.keys (fun _ a=>kq_ex hk hS a),kq_sl hk hS h.cases (fun _ a=>kq_ca hk hS a)⟩
theorem kq_st:∀ {s:St},s.In w→s.In W:=fun {s} h=>by
 induction h with
 | mk s k hd nm e l c r _ l2 c2 r2 _ ih ih2=>exact .mk s k hd nm (kq_ex hk hS e) l c (kq_row hk hS r) ih l2 c2 (kq_row hk hS r2) ih2
theorem kq_ac {x:Ac} (h:x.In w):x.In W:=⟨h.name,kq_sl hk hS h.params (fun _ a=>kq_fd a),kq_sl hk hS h.body (fun _ a=>kq_st hk hS a)⟩
theorem kq_ke {x:Ke} (h:x.In w):x.In W:=⟨kq_ex hk hS h.e,h.kind⟩
theorem kq_cl {x:Cl} (h:x.In w):x.In W:=⟨h.name,kq_sl hk hS h.args (fun _ a=>a)⟩
theorem kq_ta {x:Ta} (h:x.In w):x.In W:=⟨h.name,kq_sl hk hS h.keys (fun _ a=>kq_ke hk hS a),kq_sl hk hS h.actions (fun _ a=>a),kq_cl hk hS h.dflt⟩
theorem kq_pr {x:Pr} (h:x.In w):x.In W:=⟨kq_sl hk hS h.headers (fun _ a=>kq_hr hk hS a),kq_sl hk hS h.metas (fun _ a=>kq_fd a),kq_sl hk hS h.states (fun _ a=>kq_sa hk hS a),kq_sl hk hS h.actions (fun _ a=>kq_ac hk hS a),kq_sl hk hS h.tables (fun _ a=>kq_ta hk hS a),kq_sl hk hS h.control (fun _ a=>kq_st hk hS a),kq_sl hk hS h.emit (fun _ a=>a)⟩
end
/-- A part of an iterator has been called when k items had come: m more have come, in their order; or a round has said 'no more'. -/
def Came (S:Nat→Prop) (J Jx:Nat→World→Prop) (k m:Nat) (W:World) (e:Ending) (W':World):Prop :=
 (e=.returned (.bool true)∧J (k+m) W'∧Kq S W W')∨(e=.returned (.bool false)∧∃ i,Jx i W')
def Lays (J:Nat→World→Prop):Prop:=∀ k W y,J k W→J k (plus W y)
/-- A round is asked of the item that comes next, and of no other. -/
def Next {α:Type} (P:Program) (l:Nat) (encs:α→Value) (xs:List α) (S:Nat→Prop) (J Jx:Nat→World→Prop):Prop :=
 ∀ (k:Nat) (x:α) (W:World),xs[k]?=some x→J k W→YieldAt Fence.wide 0 P l #[encs x] W (Came S J Jx k 1 W)
theorem round_wide {m m':Nat} {P:Program} {l:Nat} {f:FuncId} {tmps:Array Value} {assign body:Code} {w:World} {R:Ending→World→Prop} (h:RoundIn Fence.wide m P l f tmps assign body w R):RoundIn Fence.wide m' P l f tmps assign body w R :=
 ⟨h.1,fun c cs _=>h.2 c cs (room_wide _)⟩
theorem calls_wide {m m':Nat} {P:Program} {f:FuncId} {args:Array Value} {w:World} {R:Ending→World→Prop} (h:CallsIn Fence.wide m P f args w R):CallsIn Fence.wide m' P f args w R:=callsIn_wide.2 (callsIn_wide.1 h)
theorem hdd (k:Nat):Fence.wide.depth.isSome=true→1≤k:=fun h=>by cases h
open Go.Shelf
attribute [local go_sem] Oper.semAt_some
/-- An item that is no statement. -/
def itV (kind a b:Int):Value:=.agg #[.int .u8 kind,.int .i64 a,.int .i64 b,.int .u8 0,.string ⟨#[]⟩,.string ⟨#[]⟩,.int .u8 0,.int .i64 0,.int .u64 0,.int .u64 0,.string ⟨#[]⟩,.string ⟨#[]⟩,.int .i64 0,.int .i64 0,.slice none 0 0,.slice none 0 0,.slice none 0 0]
abbrev yv (l:Nat):Value:=.func (.yield l) #[] #[]
set_option maxRecDepth 100000 in
set_option maxHeartbeats 4000000 in
theorem one_in (l:Nat) (kind a:Int) (S:Nat→Prop) (J Jx:Nat→World→Prop) (k:Nat) (W:World) (hy:YieldAt Fence.wide 0 Tryz.prog l #[itV kind a 0] W (Came S J Jx k 1 W)) :
  CallsIn Fence.wide 0 Tryz.prog 71 #[yv l,.int .u8 kind,.int .i64 a] W (Came S J Jx k 1 W):=by
 obtain⟨fn,tmps,assign,body,hy,hR⟩:=hy
 unfold itV at hy
 refine callsIn_of_wp Tryz.func71 rfl trivial ?_ rfl
 simp only [Tryz.ntmps71,List.size_toArray,List.length_cons,List.length_nil,Nat.reduceAdd,Nat.reduceSub,Array.replicate_succ,Array.replicate_zero,List.push_toArray,List.append_toArray,List.nil_append,List.cons_append]
 gi_wp2
 refine⟨rfl,(round_wide hR).mono ?_⟩
 rintro e w' (⟨rfl,hJ,hk⟩ | ⟨rfl,hx⟩)
 ·gi_wp2
  go_ret
  exact .inl ⟨rfl,hJ,hk⟩
 ·gi_wp2
  go_ret
  exact .inr ⟨rfl,hx⟩
set_option maxRecDepth 100000 in
set_option maxHeartbeats 8000000 in
theorem parts_in (l:Nat) (kind a:Int) (n:Nat) (hn:n≤1048576) (S:Nat→Prop) (J Jx:Nat→World→Prop) (k:Nat) (W:World) (hy:∀ j W1,j < n→J (k+j) W1→YieldAt Fence.wide 0 Tryz.prog l #[itV kind a (j:Int)] W1 (Came S J Jx (k+j) 1 W1)) (h0:J k W) :
  CallsIn Fence.wide 0 Tryz.prog 144 #[yv l,.int .u8 kind,.int .i64 a,.int .i64 (n:Int)] W (Came S J Jx k n W):=by
 have hy':=Lib.hid hy
 have hn':=Lib.hid hn
 clear hy hn
 refine callsIn_of_wp Tryz.func144 rfl trivial ?_ rfl
 simp only [Tryz.ntmps144,List.size_toArray,List.length_cons,List.length_nil,Nat.reduceAdd,Nat.reduceSub,Array.replicate_succ,Array.replicate_zero,List.push_toArray,List.append_toArray,List.nil_append,List.cons_append]
 gi_wp2
 gi_loopw [9,11] (fun _ iv wr=>∃ j:Nat,j≤n∧iv=.int .i64 (j:Int)∧J (k+j) wr∧Kq S W wr) (fun _ iv _=>n - (intOf iv).toNat)
 case atStart=>exact⟨0,Nat.zero_le _,rfl,h0,Kq.refl _ _⟩
 case round =>
  obtain⟨j,hj,rfl,hJ,hK⟩:=hrel
  by_cases hlt:j < n
  ·obtain⟨fn,tmps,assign,body,hy,hR⟩:=hy'.out j wr hlt hJ
   unfold itV at hy
   have a6:=Lib.hid (wr_succ j n hlt hn'.out)
   have hR':=Lib.hid hR
   clear hR
   gi_wp2
   refine⟨rfl,(round_wide hR'.out).mono ?_⟩
   rintro e w' (⟨rfl,hJ2,hk2⟩ | ⟨rfl,hx⟩)
   ·gi_wp2
    go_roundw
    case rel=>exact⟨j+1,hlt,congrArg (Value.int .i64) a6.out,hJ2,hK.trans hk2⟩
    case measure=>exact step_less j n hlt a6.out
   ·gi_wp2
    go_ret
    exact .inr ⟨rfl,hx⟩
  ·obtain rfl:j=n:=by omega
   clear hlt hj
   gi_wp2
   go_ret
   exact .inl ⟨rfl,hJ,hK⟩
end Go.Proofs.YtobhijbncchpiaaGreat
