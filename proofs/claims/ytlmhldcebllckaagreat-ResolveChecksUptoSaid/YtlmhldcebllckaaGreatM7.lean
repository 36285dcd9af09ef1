/-
  WHAT IS PROVED HERE: a part of the proof (made narrower and merged by program; the parts: Ze Zf).
-/
import Derived.Test.YtlmhldcebllckaaGreatRows
import Derived.WalkKit
import Derived.Lib.Hide
import Derived.WalkSpells
import Derived.WalkLawsBesides
import Derived.Test.YtlmhldcebllckaaGreatM6
namespace Go.Proofs.YtlmhldcebllckaaGreat
open Go.RowKit
/-- A header's width. -/
def bitsI (l:List Fd):Int:=l.foldl (fun s f=>wrap64 (s + f.w)) 0
theorem bitsI_take (l:List Fd) (k:Nat) (x:Fd) (h:l[k]? = some x):bitsI (l.take (k + 1)) = wrap64 (bitsI (l.take k) + x.w):=by
 obtain ⟨h1,rfl⟩:=List.getElem?_eq_some_iff.1 h
 unfold bitsI
 rw [List.take_succ_eq_append_getElem h1,List.foldl_append]
 rfl
theorem alloc_in {W:World} {y:Ext} (o:Obj):∃ x,(plus W y).alloc o = plus W x:=by
 obtain ⟨x,hx⟩:=plus_of_below ((Below.refl (plus W y).heap.size (plus W y)).alloc (Nat.le_refl _) o)
 exact ⟨_,by rw [hx,plus_plus]⟩
set_option maxRecDepth 100000 in
set_option maxHeartbeats 8000000 in
theorem q_Bits (nm:ByteArray) (A:Sl Fd) (w:World) (K:Fd → Prop) (hA:A.In w 2 Fd.cells K) (hl:A.l.length ≤ 1048576):Kp Tryz.prog w 11 #[.agg #[.string nm,A.v]] (.int .i64 (bitsI A.l)):=by
 intro y0
 have hr:=hA.row.plus y0
 obtain ⟨V,hV⟩:∃ V,plus w y0 = V:=⟨_,rfl⟩
 rw [hV] at hr ⊢
 clear hV hA
 obtain ⟨ap,ac,al⟩:=A
 simp only [Sl.v] at hr hl ⊢
 obtain ⟨n,hn⟩:∃ n,al.length = n:=⟨_,rfl⟩
 rw [hn] at hl ⊢
 have hn':=Lib.hid hn
 have hl':=Lib.hid hl
 have hr':=Lib.hid hr
 clear hn hl hr
 go_enter Tryz.func11,Tryz.ntmps11
 go_upto_region 1 with (fail)
 obtain ⟨W,yy,hW,⟨z,hz⟩,ca⟩:=box1n V _ 38
 rw [hW]
 have c1:=ca 1 _ rfl
 have hr2:=Lib.hid (fun k x (hx:al[k]? = some x)=>(show ∃ pa,ap = some pa ∧ CellsAt W (pa.add (k * 2)) x.cells by
  obtain ⟨pa,e,hc⟩:=hr'.out k x hx
  exact ⟨pa,e,cells_up hz hc⟩))
 have hz2:=Lib.hid hz
 clear hW hz ca hr'
 go_upto_region 3 with (fail)
 go_loopw [3,5,9] (fun sv _ iv wr=>∃ k:Nat,k ≤ n ∧ iv = .int .i64 (k:Int) ∧ sv = .int .i64 (bitsI (al.take k)) ∧ ∃ y,wr = plus W y) (fun _ _ iv _=>n - (intOf iv).toNat)
 case atStart=>exact ⟨0,Nat.zero_le _,rfl,rfl,_,rfl⟩
 case round =>
  obtain ⟨k,hk,rfl,rfl,y,rfl⟩:=hrel
  by_cases hlt:k < n
  ·obtain ⟨a,ha⟩:∃ s,al[k]? = some s:=⟨al[k]'(by rw [hn'.out];exact hlt),List.getElem?_eq_getElem _⟩
   obtain ⟨pa,rfl,hc⟩:=hr2.out k a ha
   have hs:=Lib.hid (bitsI_take al k a ha)
   obtain ⟨an,aw⟩:=a
   have d0:=fun y=>(hc.plus y).c0 _ rfl
   have d1:=fun y=>(hc.plus y).cs 0 _ rfl
   simp only at d0 d1
   have a6:=Lib.hid (wr_succ k n hlt hl'.out)
   obtain ⟨T,hT⟩:∃ T,bitsI (al.take k) = T:=⟨_,rfl⟩
   rw [hT]
   have hT':=Lib.hid hT
   clear hc ha hT
   go_wp2
   go_roundw
   case rel=>exact ⟨k + 1,hlt,congrArg (Value.int .i64) a6.out,congrArg (Value.int .i64) (by rw [hs.out,hT'.out]),alloc_in _⟩
   case measure=>exact step_less k n hlt a6.out
  ·obtain rfl:k = n:=by omega
   have e:=Lib.hid (show bitsI (al.take k) = bitsI al by rw [List.take_of_length_le (by rw [hn'.out];exact Nat.le_refl _)])
   clear hlt hk
   go_wp2
   go_ret
   exact ⟨congrArg (fun z=>Ending.returned (Value.int .i64 z)) e.out,by rw [hz2.out,plus_plus];exact ⟨_,rfl⟩⟩
/-- Is what an expression names itself there? -/
def isB (p:Pr) (act:Int) (e:Ex):Bool:=if e.op = 2 then (fieldI p (hdI p.headers.l e.head) e.name != -1) else if e.op = 3 then (fdI p.metas.l e.name != -1) else if e.op = 4 then (paramI p act e.name != -1) else if e.op = 6 then (hdI p.headers.l e.head != -1) else true
set_option maxRecDepth 100000 in
set_option maxHeartbeats 8000000 in
theorem q_isThere (p:Pr) (w:World) (h:p.In w) (hz:p.sz ≤ 1048576) (act:Int) (e:Ex):Kp Tryz.prog w 110 #[.agg #[.slice p.headers.p p.headers.l.length p.headers.cap,.slice p.metas.p p.metas.l.length p.metas.cap,.slice p.states.p p.states.l.length p.states.cap,.slice p.actions.p p.actions.l.length p.actions.cap,.slice p.tables.p p.tables.l.length p.tables.cap,.slice p.control.p p.control.l.length p.control.cap,.slice p.emit.p p.emit.l.length p.emit.cap],.int .i64 act,.agg #[.int .u8 e.op,.int .i64 e.lit.w,.int .u64 e.lit.h,.int .u64 e.lit.l,.string e.head,.string e.name,.int .i64 e.hi,.int .i64 e.lo,.slice e.p e.args.length e.cap]] (.bool (isB p act e)):=by
 intro y0
 have k1:=(q_Header p w h hz e.head).up y0
 have k2:=(q_Field p w h hz (hdI p.headers.l e.head) e.name).up y0
 have k3:=(q_Meta p w h hz e.name).up y0
 have k4:=(q_Param p w h hz act e.name).up y0
 obtain ⟨V,hV⟩:∃ V,plus w y0 = V:=⟨_,rfl⟩
 rw [hV] at k1 k2 k3 k4 ⊢
 clear hV h hz
 obtain ⟨R,hR⟩:∃ R,isB p act e = R:=⟨_,rfl⟩
 rw [hR]
 unfold isB at hR
 generalize fieldI p (hdI p.headers.l e.head) e.name = I2 at hR k2
 generalize hdI p.headers.l e.head = I1 at hR k1 k2
 generalize fdI p.metas.l e.name = I3 at hR k3
 generalize paramI p act e.name = I4 at hR k4
 have g2:=Lib.hid (show e.op = 2 → (I2 != -1) = R from fun h=>by rw [← hR,if_pos h])
 have g3:=Lib.hid (show e.op = 3 → (I3 != -1) = R from fun h=>by rw [← hR,if_neg (by omega),if_pos h])
 have g4:=Lib.hid (show e.op = 4 → (I4 != -1) = R from fun h=>by rw [← hR,if_neg (by omega),if_neg (by omega),if_pos h])
 have g6:=Lib.hid (show e.op = 6 → (I1 != -1) = R from fun h=>by rw [← hR,if_neg (by omega),if_neg (by omega),if_neg (by omega),if_pos h])
 have g0:=Lib.hid (show e.op ≠ 2 → e.op ≠ 3 → e.op ≠ 4 → e.op ≠ 6 → true = R from fun h h1 h2 h3=>by rw [← hR,if_neg h,if_neg h1,if_neg h2,if_neg h3])
 have k1':=Lib.hid k1
 have k2':=Lib.hid k2
 have k3':=Lib.hid k3
 have k4':=Lib.hid k4
 clear hR k1 k2 k3 k4
 obtain ⟨op,⟨lw,lh,ll⟩,hd,nm,hi,lo,ep,ec,el⟩:=e
 simp only [Ex.op,Ex.lit,Ex.head,Ex.name,Ex.hi,Ex.lo,Ex.p,Ex.cap,Ex.args] at *
 go_enter Tryz.func110,Tryz.ntmps110
 go_upto_region 1 with (fail)
 obtain ⟨W,yy,hW,⟨z,hz⟩,ca,cb⟩:=box2n V _ _ 30 68
 rw [hW]
 have c0:=ca 0 _ rfl
 have c1:=ca 1 _ rfl
 have c2:=ca 2 _ rfl
 have c3:=ca 3 _ rfl
 have c4:=ca 4 _ rfl
 have c5:=ca 5 _ rfl
 have c6:=ca 6 _ rfl
 have b0:=cb 0 _ rfl
 have b1:=cb 1 _ rfl
 have b2:=cb 2 _ rfl
 have b3:=cb 3 _ rfl
 have b4:=cb 4 _ rfl
 have b5:=cb 5 _ rfl
 have b6:=cb 6 _ rfl
 have b7:=cb 7 _ rfl
 have b8:=cb 8 _ rfl
 have q1:=Lib.hid (kp_at hz k1'.out)
 have q2:=Lib.hid (kp_at hz k2'.out)
 have q3:=Lib.hid (kp_at hz k3'.out)
 have q4:=Lib.hid (kp_at hz k4'.out)
 have hz2:=Lib.hid hz
 clear hW hz ca cb k1' k2' k3' k4'
 by_cases o2:op = 2
 ·have hR2:=Lib.hid (g2.out o2)
  subst o2
  clear g0 g2 g3 g4 g6 q3 q4
  go_upto_region 3 with (fail)
  refine wp_region_own (by kernel_rfl) (by kernel_rfl) ?_
  repeat (go_big_quiet_step (first | (with_reducible exact q1.out _) | (with_reducible exact q2.out _)))
  refine wpQuiet_nil ?_
  rintro _ ⟨y2,rfl⟩
  go_wp2
  go_ret
  exact ⟨congrArg (fun z=>Ending.returned (Value.bool z)) hR2.out,by rw [hz2.out,plus_plus];exact ⟨_,rfl⟩⟩
 have n2:(op == 2) = false:=by simpa using o2
 by_cases o3:op = 3
 ·have hR2:=Lib.hid (g3.out o3)
  subst o3
  clear g0 g2 g3 g4 g6 q1 q2 q4
  go_wp2_with (first | (go_at_call 66;with_reducible refine (q3.out _).mono ?_;rintro r w' ⟨rfl,x,rfl⟩))
  go_ret
  exact ⟨congrArg (fun z=>Ending.returned (Value.bool z)) hR2.out,by rw [hz2.out,plus_plus];exact ⟨_,rfl⟩⟩
 have n3:(op == 3) = false:=by simpa using o3
 by_cases o4:op = 4
 ·have hR2:=Lib.hid (g4.out o4)
  subst o4
  clear g0 g2 g3 g4 g6 q1 q2 q3
  go_wp2_with (first | (go_at_call 70;with_reducible refine (q4.out _).mono ?_;rintro r w' ⟨rfl,x,rfl⟩))
  go_ret
  exact ⟨congrArg (fun z=>Ending.returned (Value.bool z)) hR2.out,by rw [hz2.out,plus_plus];exact ⟨_,rfl⟩⟩
 have n4:(op == 4) = false:=by simpa using o4
 by_cases o6:op = 6
 ·have hR2:=Lib.hid (g6.out o6)
  subst o6
  clear g0 g2 g3 g4 g6 q2 q3 q4
  go_wp2_with (first | (go_at_call 10;with_reducible refine (q1.out _).mono ?_;rintro r w' ⟨rfl,x,rfl⟩))
  go_ret
  exact ⟨congrArg (fun z=>Ending.returned (Value.bool z)) hR2.out,by rw [hz2.out,plus_plus];exact ⟨_,rfl⟩⟩
 have n6:(op == 6) = false:=by simpa using o6
 have hR2:=Lib.hid (g0.out o2 o3 o4 o6)
 clear g0 g2 g3 g4 g6 q1 q2 q3 q4 o2 o3 o4 o6
 go_wp2
 go_ret
 exact ⟨congrArg (fun z=>Ending.returned (Value.bool z)) hR2.out,by rw [hz2.out,plus_plus];exact ⟨_,rfl⟩⟩
mutual
/-- .. and of all in it? -/
def Ex.there (f:Ex → Bool):Ex → Bool
 | .mk op lit hd nm hi lo p c l=>f (.mk op lit hd nm hi lo p c l) && Ex.theres f l
def Ex.theres (f:Ex → Bool):List Ex → Bool
 | []=>true
 | x :: l=>x.there f && Ex.theres f l
end
theorem Ex.theres_all (f:Ex → Bool):∀ l:List Ex,Ex.theres f l = l.all (Ex.there f)
 | []=>by simp [Ex.theres]
 | x :: l=>by simp [Ex.theres,Ex.theres_all f l]
theorem Ex.there_eq (f:Ex → Bool) (e:Ex):e.there f = (f e && e.args.all (Ex.there f)):=by
 cases e;simp [Ex.there,Ex.theres_all,Ex.args]
theorem firstI_none {α:Type} (q:α → Bool):∀ (l:List α) (k:Nat),(firstI (fun x=>!q x) l k == -1) = l.all q
 | [],_=>by simp [firstI]
 | x :: l,k=>by
  unfold firstI
  cases h:q x with
  | true=>simp only [Bool.not_true,Bool.false_eq_true,if_false,List.all_cons,h,Bool.true_and];exact firstI_none q l (k + 1)
  | false =>
   simp only [Bool.not_false,if_true,List.all_cons,h,Bool.false_and]
   rw [beq_eq_false_iff_ne]
   omega
set_option maxRecDepth 100000 in
set_option maxHeartbeats 8000000 in
theorem names11 (bt:Nat) (fv:Value) (g:FuncId) (caps:Array Value) (hfv:fv = .func (.func g) #[] caps) (hent:∀ args w,(callFunc g args).run Tryz.prog w = .ok (.enter g args) w) (e:Ex) (b:Bool) (w:World) (hc:w.cell? ⟨bt,0,none⟩ = some fv)
  (hX:Kp Tryz.prog w g (#[.agg #[.int .u8 e.op,.int .i64 e.lit.w,.int .u64 e.lit.h,.int .u64 e.lit.l,.string e.head,.string e.name,.int .i64 e.hi,.int .i64 e.lo,.slice e.p e.args.length e.cap]]++caps) (.bool b)):Kp Tryz.prog w 112 #[.agg #[.int .u8 e.op,.int .i64 e.lit.w,.int .u64 e.lit.h,.int .u64 e.lit.l,.string e.head,.string e.name,.int .i64 e.hi,.int .i64 e.lo,.slice e.p e.args.length e.cap],.pointer (some ⟨bt,0,none⟩)] (.bool (!b)):=by
 intro y0
 have hX:=hX.up y0
 have hc:=cell_keep hc y0
 obtain ⟨V,hV⟩:∃ V,plus w y0 = V:=⟨_,rfl⟩
 rw [hV] at hX hc ⊢
 clear hV
 have hc2:=fun o:Obj=>cell_alloc hc o
 have hX':=Lib.hid hX
 have hc':=Lib.hid hc
 clear hX hc
 obtain ⟨op,⟨lw,lh,ll⟩,hd,nm,hi,lo,ep,ec,el⟩:=e
 simp only [Ex.op,Ex.lit,Ex.head,Ex.name,Ex.hi,Ex.lo,Ex.p,Ex.cap,Ex.args] at *
 subst hfv
 go_enter Tryz.func112,Tryz.ntmps112
 go_upto_region 1 with (fail)
 obtain ⟨W,yy,hW,⟨z,hz⟩,ca⟩:=box1n V _ 68
 rw [hW]
 have c0:=ca 0 _ rfl
 have c1:=ca 1 _ rfl
 have c2:=ca 2 _ rfl
 have c3:=ca 3 _ rfl
 have c4:=ca 4 _ rfl
 have c5:=ca 5 _ rfl
 have c6:=ca 6 _ rfl
 have c7:=ca 7 _ rfl
 have c8:=ca 8 _ rfl
 have hc3:∀ y,(plus W y).cell? ⟨bt,0,none⟩ = some (.func (.func g) #[] caps):=fun y=>cell_keep (by rw [hz];exact cell_keep hc'.out z) y
 have q1:=Lib.hid (kp_at hz hX'.out)
 have hz2:=Lib.hid hz
 clear hW hz ca hX' hc' hc2
 go_wp2_with (first | (refine (q1.out _).mono ?_;rintro r w' ⟨rfl,x,rfl⟩))
 go_ret
 exact ⟨rfl,by rw [hz2.out,plus_plus];exact ⟨_,rfl⟩⟩
theorem box4r (V:World) (c d f g:Array Value) (t u s r:TypeId):∃ W y,(((V.alloc (.cells c t)).alloc (.cells d u)).alloc (.cells f s)).alloc (.cells g r) = plus W y ∧ (∃ z,W = plus V z) ∧
  (∀ o v,c[o]? = v → ∀ y,(plus W y).cell? ⟨V.heap.size,o,none⟩ = v) ∧
  (∀ o v,d[o]? = v → ∀ y,(plus W y).cell? ⟨V.heap.size + 1,o,none⟩ = v) ∧
  (∀ o v,f[o]? = v → ∀ y,(plus W y).cell? ⟨V.heap.size + 1 + 1,o,none⟩ = v) ∧
  (∀ o v,g[o]? = v → ∀ y,(plus W y).cell? ⟨V.heap.size + 1 + 1 + 1,o,none⟩ = v):=by
 have h1:(V.alloc (.cells c t)).heap.size = V.heap.size + 1:=by simp
 have h2:((V.alloc (.cells c t)).alloc (.cells d u)).heap.size = V.heap.size + 1 + 1:=by simp
 have h3:(((V.alloc (.cells c t)).alloc (.cells d u)).alloc (.cells f s)).heap.size = V.heap.size + 1 + 1 + 1:=by simp
 have hs:((((V.alloc (.cells c t)).alloc (.cells d u)).alloc (.cells f s)).alloc (.cells g r)).heap.size = V.heap.size + 1 + 1 + 1 + 1:=by simp
 have hB:Below V.heap.size V ((((V.alloc (.cells c t)).alloc (.cells d u)).alloc (.cells f s)).alloc (.cells g r)):=(((((Below.refl _ _).alloc (Nat.le_refl _) _).alloc (by omega) _).alloc (by omega) _).alloc (by omega) _)
 exact ⟨_,⟨#[],_⟩,(plus_self _).symm,plus_of_below hB,
  fun o v e=>plus_cell (by omega) ((cell_old _ _ _ o (by omega)).trans ((cell_old _ _ _ o (by omega)).trans ((cell_old _ _ _ o (by omega)).trans ((cell_new V c t _ o rfl).trans e)))),
  fun o v e=>plus_cell (by omega) ((cell_old _ _ _ o (by omega)).trans ((cell_old _ _ _ o (by omega)).trans ((cell_new _ d u _ o h1.symm).trans e))),
  fun o v e=>plus_cell (by omega) ((cell_old _ _ _ o (by omega)).trans ((cell_new _ f s _ o h2.symm).trans e)),
  fun o v e=>plus_cell (by omega) ((cell_new _ g r _ o h3.symm).trans e)⟩
/-- The literal's captured variables: the program, the action, itself. -/
structure There (p:Pr) (act:Int) (b1 b2 b3:Nat) (w:World):Prop where
 pc:∀ j v,[.slice p.headers.p p.headers.l.length p.headers.cap,.slice p.metas.p p.metas.l.length p.metas.cap,.slice p.states.p p.states.l.length p.states.cap,.slice p.actions.p p.actions.l.length p.actions.cap,.slice p.tables.p p.tables.l.length p.tables.cap,.slice p.control.p p.control.l.length p.control.cap,.slice p.emit.p p.emit.l.length p.emit.cap][j]? = some v → w.cell? ⟨b1,j,none⟩ = some v
 ac:w.cell? ⟨b2,0,none⟩ = some (.int .i64 act)
 tc:w.cell? ⟨b3,0,none⟩ = some (.func (.func 109) #[] #[.pointer (some ⟨b1,0,none⟩),.pointer (some ⟨b2,0,none⟩),.pointer (some ⟨b3,0,none⟩)])
theorem There.plus {p:Pr} {act:Int} {b1 b2 b3:Nat} {w:World} (h:There p act b1 b2 b3 w) (x:Ext):There p act b1 b2 b3 (plus w x) :=
 ⟨fun j v hj=>cell_keep (h.pc j v hj) x,cell_keep h.ac x,cell_keep h.tc x⟩
set_option maxRecDepth 100000 in
set_option maxHeartbeats 8000000 in
theorem there_in (p:Pr) (act:Int) (b1 b2 b3:Nat) (hz:p.sz ≤ 1048576) (e:Ex):∀ w,p.In w → There p act b1 b2 b3 w → e.In w → e.wt ≤ 1048576 → Kp Tryz.prog w 109 #[.agg #[.int .u8 e.op,.int .i64 e.lit.w,.int .u64 e.lit.h,.int .u64 e.lit.l,.string e.head,.string e.name,.int .i64 e.hi,.int .i64 e.lo,.slice e.p e.args.length e.cap],.pointer (some ⟨b1,0,none⟩),.pointer (some ⟨b2,0,none⟩),.pointer (some ⟨b3,0,none⟩)] (.bool (e.there (isB p act))):=by
 induction e using Ex.ind with
 | _ e ih =>
 intro w hp hT he hw y0
 have hp:=hp.plus y0
 have hT:=hT.plus y0
 have he:=he.plus y0
 obtain ⟨V,hV⟩:∃ V,plus w y0 = V:=⟨_,rfl⟩
 rw [hV] at hp hT he ⊢
 clear hV
 have row:RowAt V 9 Ex.cells e.p e.args:=by cases he;assumption
 have kids:∀ x ∈ e.args,x.In V:=by cases he;assumption
 have hcap:e.args.length ≤ e.cap ∧ e.cap ≤ maxLen:=by cases he;exact ⟨by assumption,by assumption⟩
 have hwt:=Ex.wt_eq e
 have kwt:∀ x ∈ e.args,x.wt ≤ 1048576:=fun x hx=>by
  have:=le_sum_of Ex.wt e.args x hx
  omega
 have hlen:e.args.length ≤ 1048576:=by
  have:=length_le_sum Ex.wt Ex.wt_pos e.args
  omega
 have k1:=q_isThere p V hp hz act e
 have kA:=Lib.hid (fun (U:World) (z:Ext) (hU:U = plus V z)=>(show Kp Tryz.prog U 111 #[.slice e.p e.args.length e.cap,.func (.func 112) #[] #[.pointer (some ⟨b3,0,none⟩)]] (.int .i64 (firstI (fun x=>!x.there (isB p act)) e.args 0)) from by
  subst hU
  exact first_Expr Ex.cells shp_ex (fun x=>!x.there (isB p act)) 112 #[] #[.pointer (some ⟨b3,0,none⟩)] (Ex.In (plus V z)) (plus V z) ⟨e.p,e.cap,e.args⟩ ⟨hcap.1,hcap.2,row.plus z,fun x hx=>(kids x hx).plus z⟩ hlen (enters_of Tryz.func112 (by kernel_rfl) rfl)
   (fun x hx=>names11 b3 _ 109 _ rfl (enters_of Tryz.func109 (by kernel_rfl) rfl) x _ (plus V z) (hT.plus z).tc (ih x hx (plus V z) (hp.plus z) (hT.plus z) ((kids x hx).plus z) (kwt x hx)))))
 have hR:(isB p act e && e.args.all (Ex.there (isB p act))) = e.there (isB p act):=(Ex.there_eq (isB p act) e).symm
 rw [← firstI_none (Ex.there (isB p act)) e.args 0] at hR
 obtain ⟨R,hRR⟩:∃ R,e.there (isB p act) = R:=⟨_,rfl⟩
 rw [hRR] at hR ⊢
 generalize isB p act e = b at k1 hR
 have hI:∃ I,firstI (fun x=>!x.there (isB p act)) e.args 0 = I:=⟨_,rfl⟩
 obtain ⟨I,hI⟩:=hI
 rw [hI] at kA hR
 have hR':=Lib.hid hR
 have k1':=Lib.hid k1
 have hT':=Lib.hid hT
 clear k1 hR hRR hI row kids hcap hwt kwt hlen hw he hp ih hT
 obtain ⟨op,⟨lw,lh,ll⟩,hd,nm,hi,lo,ep,ec,el⟩:=e
 simp only [Ex.op,Ex.lit,Ex.head,Ex.name,Ex.hi,Ex.lo,Ex.p,Ex.cap,Ex.args] at *
 go_enter Tryz.func109,Tryz.ntmps109
 go_upto_region 1 with (fail)
 obtain ⟨W,yy,hW,⟨z,hz2⟩,ca⟩:=box1n V _ 68
 rw [hW]
 have c0:=ca 0 _ rfl
 have c1:=ca 1 _ rfl
 have c2:=ca 2 _ rfl
 have c3:=ca 3 _ rfl
 have c4:=ca 4 _ rfl
 have c5:=ca 5 _ rfl
 have c6:=ca 6 _ rfl
 have c7:=ca 7 _ rfl
 have c8:=ca 8 _ rfl
 have hTW:There p act b1 b2 b3 W:=by rw [hz2];exact hT'.out.plus z
 have pc0:=fun y=>(hTW.plus y).pc 0 _ rfl
 have pc1:=fun y=>(hTW.plus y).pc 1 _ rfl
 have pc2:=fun y=>(hTW.plus y).pc 2 _ rfl
 have pc3:=fun y=>(hTW.plus y).pc 3 _ rfl
 have pc4:=fun y=>(hTW.plus y).pc 4 _ rfl
 have pc5:=fun y=>(hTW.plus y).pc 5 _ rfl
 have pc6:=fun y=>(hTW.plus y).pc 6 _ rfl
 have ac:=fun y=>(hTW.plus y).ac
 have q1:=Lib.hid (kp_at hz2 k1'.out)
 have qA:=Lib.hid (kA.out W z hz2).pure
 have hz2':=Lib.hid hz2
 clear hW hz2 ca k1' hT' hTW kA
 cases b with
 | false =>
  have hR:=Lib.hid (show false = R by rw [← hR'.out,Bool.false_and])
  clear hR' qA
  go_wp2_with (first | (go_at_call 110;with_reducible refine (q1.out _).mono ?_;rintro r w' ⟨rfl,x,rfl⟩))
  go_ret
  exact ⟨congrArg (fun z=>Ending.returned (Value.bool z)) hR.out,by rw [hz2'.out,plus_plus];exact ⟨_,rfl⟩⟩
 | true =>
  have hR:=Lib.hid (show (I == -1) = R by rw [← hR'.out,Bool.true_and])
  clear hR'
  go_wp2_with (first | (go_at_call 110;with_reducible refine (q1.out _).mono ?_;rintro r w' ⟨rfl,x,rfl⟩) | (go_at_call 111;with_reducible refine (qA.out _).mono ?_;rintro r w' ⟨rfl,x,rfl⟩))
  go_ret
  exact ⟨congrArg (fun z=>Ending.returned (Value.bool z)) hR.out,by rw [hz2'.out,plus_plus];exact ⟨_,rfl⟩⟩
set_option maxRecDepth 100000 in
set_option maxHeartbeats 8000000 in
theorem q_Names (p:Pr) (w:World) (h:p.In w) (hz:p.sz ≤ 1048576) (act:Int) (e:Ex) (he:e.In w) (hw:e.wt ≤ 1048576):Kp Tryz.prog w 72 #[.agg #[.slice p.headers.p p.headers.l.length p.headers.cap,.slice p.metas.p p.metas.l.length p.metas.cap,.slice p.states.p p.states.l.length p.states.cap,.slice p.actions.p p.actions.l.length p.actions.cap,.slice p.tables.p p.tables.l.length p.tables.cap,.slice p.control.p p.control.l.length p.control.cap,.slice p.emit.p p.emit.l.length p.emit.cap],.int .i64 act,.agg #[.int .u8 e.op,.int .i64 e.lit.w,.int .u64 e.lit.h,.int .u64 e.lit.l,.string e.head,.string e.name,.int .i64 e.hi,.int .i64 e.lo,.slice e.p e.args.length e.cap]] (.int .i64 (if e.there (isB p act) then 0 else 7)):=by
 intro y0
 have h:=h.plus y0
 have he:=he.plus y0
 obtain ⟨V,hV⟩:∃ V,plus w y0 = V:=⟨_,rfl⟩
 rw [hV] at h he ⊢
 clear hV
 have kN:=Lib.hid (fun (U:World) (z:Ext) (hU:U = plus V z) (b1 b2 b3:Nat) (hT:There p act b1 b2 b3 U)=>(show Kp Tryz.prog U 109 #[.agg #[.int .u8 e.op,.int .i64 e.lit.w,.int .u64 e.lit.h,.int .u64 e.lit.l,.string e.head,.string e.name,.int .i64 e.hi,.int .i64 e.lo,.slice e.p e.args.length e.cap],.pointer (some ⟨b1,0,none⟩),.pointer (some ⟨b2,0,none⟩),.pointer (some ⟨b3,0,none⟩)] (.bool (e.there (isB p act))) from
  there_in p act b1 b2 b3 hz e U (by rw [hU];exact h.plus z) hT (by rw [hU];exact he.plus z) hw))
 obtain ⟨b,hb⟩:∃ b,e.there (isB p act) = b:=⟨_,rfl⟩
 rw [hb] at kN ⊢
 clear hb he hw h hz
 obtain ⟨op,⟨lw,lh,ll⟩,hd,nm,hi,lo,ep,ec,el⟩:=e
 simp only [Ex.op,Ex.lit,Ex.head,Ex.name,Ex.hi,Ex.lo,Ex.p,Ex.cap,Ex.args] at *
 go_enter Tryz.func72,Tryz.ntmps72
 go_upto_region 3 with (fail)
 obtain ⟨W,yy,hW,⟨z,hz2⟩,ca,cb,cc,cd⟩:=box4r V _ _ _ _ 30 3 68 157
 rw [hW]
 have w0:∀ {a:Addr} {v:Value},(∀ y,(plus W y).cell? a = some v) → W.cell? a = some v:=fun h=>by
  have:=h ⟨#[],W.drawn⟩
  rwa [plus_self] at this
 have e0:=cc 0 _ rfl
 have e1:=cc 1 _ rfl
 have e2:=cc 2 _ rfl
 have e3:=cc 3 _ rfl
 have e4:=cc 4 _ rfl
 have e5:=cc 5 _ rfl
 have e6:=cc 6 _ rfl
 have e7:=cc 7 _ rfl
 have e8:=cc 8 _ rfl
 have d0:=cd 0 _ rfl
 have q1:=Lib.hid (kN.out W z hz2 V.heap.size (V.heap.size + 1) (V.heap.size + 1 + 1 + 1) ⟨fun j v hj=>w0 (ca j _ (by simpa using hj)),w0 (cb 0 _ rfl),w0 (cd 0 _ rfl)⟩).pure
 have hz2':=Lib.hid hz2
 clear hW hz2 ca cb cc cd kN w0
 cases b with
 | true =>
  go_wp2_with (first | (refine (q1.out _).mono ?_;rintro r w' ⟨rfl,x,rfl⟩))
  go_ret
  exact ⟨rfl,by rw [hz2'.out,plus_plus];exact ⟨_,rfl⟩⟩
 | false =>
  go_wp2_with (first | (refine (q1.out _).mono ?_;rintro r w' ⟨rfl,x,rfl⟩))
  go_ret
  exact ⟨rfl,by rw [hz2'.out,plus_plus];exact ⟨_,rfl⟩⟩
end Go.Proofs.YtlmhldcebllckaaGreat
