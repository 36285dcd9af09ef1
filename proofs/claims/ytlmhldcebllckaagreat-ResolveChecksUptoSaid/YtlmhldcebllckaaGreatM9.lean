/-
  WHAT IS PROVED HERE: a part of the proof (made narrower and merged by program; the parts: Zi).
-/
import Derived.Test.YtlmhldcebllckaaGreatRows
import Derived.WalkKit
import Derived.Lib.Hide
import Derived.WalkSpells
import Derived.WalkLawsBesides
import Derived.Test.YtlmhldcebllckaaGreatM8
namespace Go.Proofs.YtlmhldcebllckaaGreat
open Go.RowKit
/-- What is wrong with a default: x: the action that it names. -/
def wDfI (names:List ByteArray) (dn:ByteArray) (args params:Nat):Int:=if nmI names dn = -1 then 7 else if args < params then 13 else if params < args then 5 else 0
set_option maxRecDepth 100000 in
set_option maxHeartbeats 8000000 in
theorem q_wrongDefault_none (p:Pr) (w:World) (tn:ByteArray) (kp:Option Addr) (kn kc:Nat) (L:Sl ByteArray) (dn:ByteArray) (gp:Option Addr) (gn gc:Nat) (hL:L.In w 1 strCells strOk) (hl:L.l.length ≤ 1048576) (hno:nmI L.l dn = -1) :
  Kp Tryz.prog w 74 #[.agg #[.slice p.headers.p p.headers.l.length p.headers.cap,.slice p.metas.p p.metas.l.length p.metas.cap,.slice p.states.p p.states.l.length p.states.cap,.slice p.actions.p p.actions.l.length p.actions.cap,.slice p.tables.p p.tables.l.length p.tables.cap,.slice p.control.p p.control.l.length p.control.cap,.slice p.emit.p p.emit.l.length p.emit.cap],.agg #[.string tn,.slice kp kn kc,L.v,.string dn,.slice gp gn gc]] (.int .i64 7):=by
 have k1:=res_firstName strOk L dn w hL hl
 rw [hno] at k1
 obtain ⟨lp,lc,ll⟩:=L
 simp only [Sl.v] at k1 ⊢
 generalize ll.length = n at k1 ⊢
 intro y0
 have k1:=k1.up y0
 obtain ⟨V,hV⟩:∃ V,plus w y0 = V:=⟨_,rfl⟩
 simp only [hV] at k1 ⊢
 clear hV hL hl hno
 have k1':=Lib.hid k1
 clear k1
 go_enter Tryz.func74,Tryz.ntmps74
 go_upto_region 1 with (fail)
 obtain ⟨W,yy,hW,⟨z,hz2⟩,cp,ct⟩:=box2n V _ _ 30 48
 rw [hW]
 have p0:=cp 0 _ rfl
 have p1:=cp 1 _ rfl
 have p2:=cp 2 _ rfl
 have p3:=cp 3 _ rfl
 have p4:=cp 4 _ rfl
 have p5:=cp 5 _ rfl
 have p6:=cp 6 _ rfl
 have t0:=ct 0 _ rfl
 have t1:=ct 1 _ rfl
 have t2:=ct 2 _ rfl
 have t3:=ct 3 _ rfl
 have t4:=ct 4 _ rfl
 have qk1:=Lib.hid (kp_at hz2 k1'.out)
 have hz3:=Lib.hid hz2
 clear hW hz2 cp ct k1'
 go_wp2_with (first | (go_at_call 113;with_reducible refine (qk1.out _).mono ?_;rintro r w' ⟨rfl,x,rfl⟩))
 go_ret
 exact ⟨rfl,by rw [hz3.out,plus_plus];exact ⟨_,rfl⟩⟩
set_option maxRecDepth 100000 in
set_option maxHeartbeats 8000000 in
theorem q_wrongDefault_some (p:Pr) (w:World) (h:p.In w) (hz:p.sz ≤ 1048576) (tn:ByteArray) (kp:Option Addr) (kn kc:Nat) (L:Sl ByteArray) (dn:ByteArray) (gp:Option Addr) (gn gc:Nat) (hL:L.In w 1 strCells strOk) (hl:L.l.length ≤ 1048576) (hno:nmI L.l dn ≠ -1)
  (k:Nat) (x:Ac) (hk:acI p.actions.l dn = (k:Int)) (hx:p.actions.l[k]? = some x) :
  Kp Tryz.prog w 74 #[.agg #[.slice p.headers.p p.headers.l.length p.headers.cap,.slice p.metas.p p.metas.l.length p.metas.cap,.slice p.states.p p.states.l.length p.states.cap,.slice p.actions.p p.actions.l.length p.actions.cap,.slice p.tables.p p.tables.l.length p.tables.cap,.slice p.control.p p.control.l.length p.control.cap,.slice p.emit.p p.emit.l.length p.emit.cap],.agg #[.string tn,.slice kp kn kc,L.v,.string dn,.slice gp gn gc]] (.int .i64 (wDfI L.l dn gn x.params.l.length)):=by
 intro y0
 have k1:=(res_firstName strOk L dn w hL hl).up y0
 have k2:=(q_Action p w h hz dn).up y0
 rw [hk] at k2
 have hr:=h.actions.row.plus y0
 have hkn:k < p.actions.l.length:=(List.getElem?_eq_some_iff.1 hx).1
 have hsz:x.params.l.length ≤ 1048576:=by
  have h1:=le_sum_of Ac.sz p.actions.l x (List.mem_of_getElem? hx)
  have h2:p.sz = p.headers.size Hr.sz + p.metas.size Fd.sz + p.states.size Sa.sz + p.actions.size Ac.sz + p.tables.size Ta.sz + p.control.size St.sz + p.emit.size strSize:=rfl
  have h3:p.actions.size Ac.sz = (p.actions.l.map Ac.sz).sum:=rfl
  have h4:x.params.size Fd.sz ≤ x.sz:=by unfold Ac.sz;omega
  exact len_le Fd.sz Fd.sz_pos x.params (by omega)
 obtain ⟨V,hV⟩:∃ V,plus w y0 = V:=⟨_,rfl⟩
 rw [hV] at k1 k2 hr ⊢
 clear hV h hz hL hl
 obtain ⟨R,hR⟩:∃ R,wDfI L.l dn gn x.params.l.length = R:=⟨_,rfl⟩
 rw [hR]
 unfold wDfI at hR
 rw [if_neg hno] at hR
 obtain ⟨pa,ha,hc⟩:=hr k x hx
 obtain ⟨A,hA⟩:∃ A,p.actions = A:=⟨_,rfl⟩
 simp only [hA] at k2 ha hkn ⊢
 clear hA hx hr hk
 obtain ⟨ap,ac,al⟩:=A
 simp only at ha
 subst ha
 simp only at hkn k2 ⊢
 obtain ⟨lp,lc,ll⟩:=L
 simp only [Sl.v] at k1 hno ⊢
 generalize nmI ll dn = I at k1 hno
 generalize ll.length = m at k1 ⊢
 generalize al.length = n at hkn k2 ⊢
 obtain ⟨xn,⟨xp,xc,xl⟩,xb⟩:=x
 simp only at hR hsz
 simp only [Ac.cells,Sl.v] at hc
 generalize xl.length = j at hR hsz hc
 have i1:(I == -1) = false:=by simpa using hno
 have k1':=Lib.hid k1
 have k2':=Lib.hid k2
 have hc':=Lib.hid hc
 have hR':=Lib.hid hR
 clear hc k1 k2 hR hno
 go_enter Tryz.func74,Tryz.ntmps74
 go_upto_region 1 with (fail)
 obtain ⟨W,yy,hW,⟨z,hz2⟩,cp,ct⟩:=box2n V _ _ 30 48
 rw [hW]
 have cp0:=cp 0 _ rfl
 have cp1:=cp 1 _ rfl
 have cp2:=cp 2 _ rfl
 have cp3:=cp 3 _ rfl
 have cp4:=cp 4 _ rfl
 have cp5:=cp 5 _ rfl
 have cp6:=cp 6 _ rfl
 have ct0:=ct 0 _ rfl
 have ct1:=ct 1 _ rfl
 have ct2:=ct 2 _ rfl
 have ct3:=ct 3 _ rfl
 have ct4:=ct 4 _ rfl
 have hcW:=cells_up hz2 hc'.out
 have d1:=fun y=>(hcW.plus y).cs 0 _ rfl
 have q1:=Lib.hid (kp_at hz2 k1'.out)
 have q2:=Lib.hid (kp_at hz2 k2'.out)
 have hz3:=Lib.hid hz2
 clear hW hz2 cp ct hcW hc' k1' k2'
 go_upto_region 3 with (first | (go_at_call 113;with_reducible refine (q1.out _).mono ?_;rintro r w' ⟨rfl,x,rfl⟩))
 refine wp_region_own (by kernel_rfl) (by kernel_rfl) ?_
 repeat (go_big_quiet_step (first | (with_reducible exact q2.out _)))
 refine wpQuiet_nil ?_
 rintro _ ⟨y2,rfl⟩
 have hR:=hR'.out
 clear hR' q1 q2 i1
 by_cases b1:gn < j
 ·rw [if_pos b1] at hR
  replace hR:=Lib.hid hR
  go_wp2
  go_ret
  exact ⟨congrArg (fun z=>Ending.returned (Value.int .i64 z)) hR.out,by rw [hz3.out,plus_plus];exact ⟨_,rfl⟩⟩
 ·rw [if_neg b1] at hR
  by_cases b2:j < gn
  ·rw [if_pos b2] at hR
   replace hR:=Lib.hid hR
   go_wp2
   go_ret
   exact ⟨congrArg (fun z=>Ending.returned (Value.int .i64 z)) hR.out,by rw [hz3.out,plus_plus];exact ⟨_,rfl⟩⟩
  ·rw [if_neg b2] at hR
   replace hR:=Lib.hid hR
   go_wp2
   go_ret
   exact ⟨congrArg (fun z=>Ending.returned (Value.int .i64 z)) hR.out,by rw [hz3.out,plus_plus];exact ⟨_,rfl⟩⟩
/-- What is wrong with a transition. -/
def wNxI (p:Pr) (s:Sa):Int:=if s.keys.l.length = 0 then (if (stI p.states.l s.to).2 then 0 else 7) else if s.keys.l.all (Ex.there (isB p (-1))) then 0 else 7
set_option maxRecDepth 100000 in
set_option maxHeartbeats 8000000 in
theorem q_wrongNext (p:Pr) (w:World) (h:p.In w) (hz:p.sz ≤ 1048576) (s:Sa) (hs:s.In w) (hsz:s.sz ≤ 1048576):Kp Tryz.prog w 68 #[.agg #[.slice p.headers.p p.headers.l.length p.headers.cap,.slice p.metas.p p.metas.l.length p.metas.cap,.slice p.states.p p.states.l.length p.states.cap,.slice p.actions.p p.actions.l.length p.actions.cap,.slice p.tables.p p.tables.l.length p.tables.cap,.slice p.control.p p.control.l.length p.control.cap,.slice p.emit.p p.emit.l.length p.emit.cap],.agg s.cells.toArray] (.int .i64 (wNxI p s)):=by
 intro y0
 have k1:=(q_wrongTarget p w h hz s.to).up y0
 have lK:s.keys.l.length ≤ 1048576:=len_le Ex.wt Ex.wt_pos s.keys (n:=1048576) (by unfold Sa.sz at hsz;omega)
 have kN:∀ x ∈ s.keys.l,Kp Tryz.prog w 72 #[.agg #[.slice p.headers.p p.headers.l.length p.headers.cap,.slice p.metas.p p.metas.l.length p.metas.cap,.slice p.states.p p.states.l.length p.states.cap,.slice p.actions.p p.actions.l.length p.actions.cap,.slice p.tables.p p.tables.l.length p.tables.cap,.slice p.control.p p.control.l.length p.control.cap,.slice p.emit.p p.emit.l.length p.emit.cap],.int .i64 (-1),.agg x.cells.toArray] (.int .i64 (if x.there (isB p (-1)) then 0 else 7)):=fun x hx=>by
  have h1:=le_sum_of Ex.wt s.keys.l x hx
  have h2:s.keys.size Ex.wt = (s.keys.l.map Ex.wt).sum:=rfl
  unfold Sa.sz at hsz
  exact q_Names p w h hz (-1) x (hs.keys.kids x hx) (by omega)
 have kN:=fun x hx=>(kN x hx).up y0
 have hr:=hs.keys.row.plus y0
 obtain ⟨V,hV⟩:∃ V,plus w y0 = V:=⟨_,rfl⟩
 simp only [hV] at k1 kN hr ⊢
 clear hV h hz hs hsz
 obtain ⟨R,hR⟩:∃ R,wNxI p s = R:=⟨_,rfl⟩
 rw [hR]
 unfold wNxI at hR
 obtain ⟨sn,⟨tp,tc,tl⟩,st,⟨kp,kc,kl⟩,⟨cp,cc,cl⟩⟩:=s
 simp only [Sa.cells,Sl.v] at k1 kN hr hR lK ⊢
 generalize (if (stI p.states.l st).2 = true then (0:Int) else 7) = K1 at k1 hR
 obtain ⟨n,hn⟩:∃ n,kl.length = n:=⟨_,rfl⟩
 rw [hn] at hR lK ⊢
 generalize isB p (-1) = B at kN hR
 have k1':=Lib.hid k1
 have kN':=Lib.hid kN
 have hr':=Lib.hid hr
 have hR':=Lib.hid hR
 have hn':=Lib.hid hn
 have lK':=Lib.hid lK
 clear k1 kN hr hR hn lK
 go_enter Tryz.func68,Tryz.ntmps68
 go_upto_region 1 with (fail)
 obtain ⟨W,yy,hW,⟨z,hz2⟩,cp',ct⟩:=box2n V _ _ 30 52
 rw [hW]
 have ep0:=cp' 0 _ rfl
 have ep1:=cp' 1 _ rfl
 have ep2:=cp' 2 _ rfl
 have ep3:=cp' 3 _ rfl
 have ep4:=cp' 4 _ rfl
 have ep5:=cp' 5 _ rfl
 have ep6:=cp' 6 _ rfl
 have et0:=ct 0 _ rfl
 have et1:=ct 1 _ rfl
 have et2:=ct 2 _ rfl
 have et3:=ct 3 _ rfl
 have et4:=ct 4 _ rfl
 have q1:=Lib.hid (kp_at hz2 k1'.out)
 have hr2:=Lib.hid (fun k x (hx:kl[k]? = some x)=>(show ∃ pa,kp = some pa ∧ CellsAt W (pa.add (k * 9)) x.cells by
  obtain ⟨pa,e,hc⟩:=hr'.out k x hx
  exact ⟨pa,e,cells_up hz2 hc⟩))
 have qN:=Lib.hid (fun x hx=>kp_at hz2 (kN'.out x hx))
 have hz3:=Lib.hid hz2
 clear hW hz2 cp' ct hr' k1' kN'
 by_cases n0:n = 0
 ·have hR:=Lib.hid (show K1 = R by rw [← hR'.out,if_pos n0])
  subst n0
  clear hR' hr2 qN
  go_wp2_with (first | (go_at_call 69;with_reducible refine (q1.out _).mono ?_;rintro r w' ⟨rfl,x,rfl⟩))
  go_ret
  exact ⟨congrArg (fun z=>Ending.returned (Value.int .i64 z)) hR.out,by rw [hz3.out,plus_plus];exact ⟨_,rfl⟩⟩
 have h0:Hid ((if (kl.drop 0).all (Ex.there B) = true then (0:Int) else 7) = R):=Lib.hid (by rw [← hR'.out,if_neg n0];rfl)
 have n1:((n:Int) == 0) = false:=by simpa using n0
 clear hR' q1
 go_upto_region 4 with (fail)
 have ea0:=fun (y:Ext) (X:Obj)=>cell_alloc (v:=.slice p.headers.p p.headers.l.length p.headers.cap) (ep0 y) X
 have ea1:=fun (y:Ext) (X:Obj)=>cell_alloc (v:=.slice p.metas.p p.metas.l.length p.metas.cap) (ep1 y) X
 have ea2:=fun (y:Ext) (X:Obj)=>cell_alloc (v:=.slice p.states.p p.states.l.length p.states.cap) (ep2 y) X
 have ea3:=fun (y:Ext) (X:Obj)=>cell_alloc (v:=.slice p.actions.p p.actions.l.length p.actions.cap) (ep3 y) X
 have ea4:=fun (y:Ext) (X:Obj)=>cell_alloc (v:=.slice p.tables.p p.tables.l.length p.tables.cap) (ep4 y) X
 have ea5:=fun (y:Ext) (X:Obj)=>cell_alloc (v:=.slice p.control.p p.control.l.length p.control.cap) (ep5 y) X
 have ea6:=fun (y:Ext) (X:Obj)=>cell_alloc (v:=.slice p.emit.p p.emit.l.length p.emit.cap) (ep6 y) X
 go_loopw [6,7,19] (fun _ _ iv wr=>∃ k:Nat,k ≤ n ∧ iv = .int .i64 (k:Int) ∧ Hid ((if (kl.drop k).all (Ex.there B) = true then (0:Int) else 7) = R) ∧ ∃ y,wr = plus W y) (fun _ _ iv _=>n - (intOf iv).toNat)
 case atStart=>exact ⟨0,Nat.zero_le _,rfl,h0,_,rfl⟩
 case round =>
  obtain ⟨k,hk,rfl,hs,y,rfl⟩:=hrel
  by_cases hlt:k < n
  ·obtain ⟨a,ha⟩:∃ s,kl[k]? = some s:=⟨kl[k]'(by rw [hn'.out];exact hlt),List.getElem?_eq_getElem _⟩
   obtain ⟨pa,rfl,hcW⟩:=hr2.out k a ha
   have hs1:(if (a.there B && (kl.drop (k + 1)).all (Ex.there B)) = true then (0:Int) else 7) = R:=by rw [← all_drop (Ex.there B) kl k a ha];exact hs.out
   have q2:=qN.out a (List.mem_of_getElem? ha)
   generalize a.there B = b at q2 hs1
   have q2':=Lib.hid q2
   have a6:=Lib.hid (wr_succ k n hlt lK'.out)
   obtain ⟨aop,⟨alw,alh,all⟩,ahd,anm,ahi,alo,ap,acap,aargs⟩:=a
   simp only [Ex.cells,Ex.op,Ex.lit,Ex.head,Ex.name,Ex.hi,Ex.lo,Ex.p,Ex.cap,Ex.args] at hcW q2'
   have d0:=fun y=>(hcW.plus y).c0 _ rfl
   have d1:=fun y=>(hcW.plus y).cs 0 _ rfl
   have d2:=fun y=>(hcW.plus y).cs 1 _ rfl
   have d3:=fun y=>(hcW.plus y).cs 2 _ rfl
   have d4:=fun y=>(hcW.plus y).cs 3 _ rfl
   have d5:=fun y=>(hcW.plus y).cs 4 _ rfl
   have d6:=fun y=>(hcW.plus y).cs 5 _ rfl
   have d7:=fun y=>(hcW.plus y).cs 6 _ rfl
   have d8:=fun y=>(hcW.plus y).cs 7 _ rfl
   clear q2 hcW ha hs h0
   cases b with
   | true =>
    have hs2:=Lib.hid (show (if (kl.drop (k + 1)).all (Ex.there B) = true then (0:Int) else 7) = R by rw [← hs1,Bool.true_and])
    clear hs1
    rw [if_pos rfl] at q2'
    go_wp2_with (refine pure_call1 q2'.out ?_;rintro e w' ⟨rfl,x,rfl⟩)
    go_roundw
    case rel=>exact ⟨k + 1,hlt,congrArg (Value.int .i64) a6.out,hs2,x,rfl⟩
    case measure=>exact step_less k n hlt a6.out
   | false =>
    have hR:=Lib.hid (show (7:Int) = R by rw [← hs1,Bool.false_and,if_neg (by decide)])
    clear hs1
    rw [if_neg (by decide)] at q2'
    go_wp2_with (refine pure_call1 q2'.out ?_;rintro e w' ⟨rfl,x,rfl⟩)
    go_ret
    exact ⟨congrArg (fun z=>Ending.returned (Value.int .i64 z)) hR.out,by rw [hz3.out,plus_plus];exact ⟨_,rfl⟩⟩
  ·obtain rfl:k = n:=by omega
   have hR:=Lib.hid (show (0:Int) = R by
    rw [← hs.out,List.drop_of_length_le (by rw [hn'.out];exact Nat.le_refl _)];rfl)
   clear hs hlt hk h0
   go_wp2
   go_ret
   exact ⟨congrArg (fun z=>Ending.returned (Value.int .i64 z)) hR.out,by rw [hz3.out,plus_plus];exact ⟨_,rfl⟩⟩
end Go.Proofs.YtlmhldcebllckaaGreat
