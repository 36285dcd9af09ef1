/-
  WHAT IS PROVED HERE: a part of the proof (made narrower and merged by program; the parts: Wp).
-/
import Derived.Test.YtlmhldcebllckaaGreatRows
import Derived.WalkKit
import Derived.Lib.Hide
import Derived.WalkSpells
import Derived.WalkLawsBesides
import Derived.Test.YtlmhldcebllckaaGreatM18
import Derived.Test.YtlmhldcebllckaaGreatM38
import Derived.Test.YtlmhldcebllckaaGreatM50
namespace Go.Proofs.YtlmhldcebllckaaGreat
open Go.RowKit
theorem pr_arg (p:Pr):(#[.agg p.cells.toArray]:Array Value) = #[.agg #[.slice p.headers.p p.headers.l.length p.headers.cap,.slice p.metas.p p.metas.l.length p.metas.cap,.slice p.states.p p.states.l.length p.states.cap,.slice p.actions.p p.actions.l.length p.actions.cap,.slice p.tables.p p.tables.l.length p.tables.cap,.slice p.control.p p.control.l.length p.control.cap,.slice p.emit.p p.emit.l.length p.emit.cap]]:=rfl
set_option maxRecDepth 100000 in
set_option maxHeartbeats 16000000 in
theorem r_check_no (p:Pr) (w:World) (hin:p.In w) (hz:p.sz ≤ 1048576) (hB:prB p = false):Calls Tryz.prog 8 #[.agg #[.slice p.headers.p p.headers.l.length p.headers.cap,.slice p.metas.p p.metas.l.length p.metas.cap,.slice p.states.p p.states.l.length p.states.cap,.slice p.actions.p p.actions.l.length p.actions.cap,.slice p.tables.p p.tables.l.length p.tables.cap,.slice p.control.p p.control.l.length p.control.cap,.slice p.emit.p p.emit.l.length p.emit.cap]] w fun e w'=>e = .returned (.tuple #[.int .i64 (-1),.int .i64 2]) ∧ ∃ x,w' = plus w x:=by
 have hin':=Lib.hid hin
 have hz':=Lib.hid hz
 have kM:=rmay_pr p w hin hz
 rw [pr_arg,hB] at kM
 have kM':=Lib.hid kM
 clear hin hz kM
 go_enter Tryz.func8,Tryz.ntmps8
 go_upto_region 1 with (fail)
 obtain ⟨U,yy,hU0,⟨zU,hzU⟩,cp⟩:=box1n w _ 30
 rw [hU0]
 have qM:=Lib.hid (kp_at hzU kM'.out)
 have hzU':=Lib.hid hzU
 have cp0:=cp 0 _ rfl
 have cp1:=cp 1 _ rfl
 have cp2:=cp 2 _ rfl
 have cp3:=cp 3 _ rfl
 have cp4:=cp 4 _ rfl
 have cp5:=cp 5 _ rfl
 have cp6:=cp 6 _ rfl
 clear hU0 cp hzU kM'
 go_wp2_with (first | (go_at_call 22;with_reducible refine (qM.out _).mono ?_;rintro r w' ⟨rfl,x,rfl⟩))
 go_ret2
 exact ⟨rfl,by rw [hzU'.out,plus_plus];exact ⟨_,rfl⟩⟩
set_option maxRecDepth 100000 in
set_option maxHeartbeats 16000000 in
theorem r_check_yes (p:Pr) (w:World) (hin:p.In w) (hz:p.sz ≤ 1048576) (hB:prB p = true):Calls Tryz.prog 8 #[.agg #[.slice p.headers.p p.headers.l.length p.headers.cap,.slice p.metas.p p.metas.l.length p.metas.cap,.slice p.states.p p.states.l.length p.states.cap,.slice p.actions.p p.actions.l.length p.actions.cap,.slice p.tables.p p.tables.l.length p.tables.cap,.slice p.control.p p.control.l.length p.control.cap,.slice p.emit.p p.emit.l.length p.emit.cap]] w fun e w'=>e = .returned (.tuple #[.int .i64 ((scanI p (encP p) 0).1:Int),.int .i64 (scanI p (encP p) 0).2]) ∧ ∃ x,w' = plus w x:=by
 have hB':=Lib.hid hB
 obtain ⟨R,hR⟩:∃ R,scanI p (encP p) 0 = R:=⟨_,rfl⟩
 rw [hR]
 have hR':=Lib.hid hR
 clear hR
 have hin':=Lib.hid hin
 have hz':=Lib.hid hz
 have kM:=rmay_pr p w hin hz
 rw [pr_arg,hB] at kM
 have kM':=Lib.hid kM
 clear hin hz kM
 go_enter Tryz.func8,Tryz.ntmps8
 go_upto_region 1 with (fail)
 obtain ⟨U,yy,hU0,⟨zU,hzU⟩,cp⟩:=box1n w _ 30
 rw [hU0]
 have qM:=Lib.hid (kp_at hzU kM'.out)
 have hzU':=Lib.hid hzU
 have cp0:=cp 0 _ rfl
 have cp1:=cp 1 _ rfl
 have cp2:=cp 2 _ rfl
 have cp3:=cp 3 _ rfl
 have cp4:=cp 4 _ rfl
 have cp5:=cp 5 _ rfl
 have cp6:=cp 6 _ rfl
 clear hU0 cp hzU kM'
 clear hB
 have hI:=Lib.hid (show ∀ W,(∃ z,W = plus U z) → Calls Tryz.prog 23 #[.agg #[.slice p.headers.p p.headers.l.length p.headers.cap,.slice p.metas.p p.metas.l.length p.metas.cap,.slice p.states.p p.states.l.length p.states.cap,.slice p.actions.p p.actions.l.length p.actions.cap,.slice p.tables.p p.tables.l.length p.tables.cap,.slice p.control.p p.control.l.length p.control.cap,.slice p.emit.p p.emit.l.length p.emit.cap]] W (fun e w'=>∃ v,e = .returned v ∧ OwI W w' v (encP p)) from fun W ⟨z,h⟩=>by
  subst h
  rw [hzU'.out,plus_plus]
  exact r_items p _ (hin'.out.plus _) hz'.out)
 go_upto_region 4 with (first | (go_at_call 22;with_reducible refine (qM.out _).mono ?_;rintro r w' ⟨rfl,x,rfl⟩) | (go_at_call 23;with_reducible refine (hI.out _ ⟨_,rfl⟩).mono ?_;rintro r X ⟨v,rfl,hX⟩;obtain ⟨q,c,rfl,rX⟩:=hX.row;obtain ⟨zX,hzX⟩:=hX.plus;have rX':=Lib.hid rX;have hzX':=Lib.hid (show ∃ z,X = plus U z from ⟨_,hzX.trans (plus_plus _ _ _)⟩);clear hX rX hzX))
 obtain ⟨n,hn⟩:∃ n,(encP p).length = n:=⟨_,rfl⟩
 rw [hn]
 have hn':=Lib.hid hn
 have hl':=Lib.hid (show n ≤ 2097152 from by rw [← hn];exact encP_len p hz'.out)
 clear hn
 go_wp2
 go_loopw [5,6] (fun iv _ wr=>∃ k:Nat,k ≤ n ∧ iv = .int .i64 (k:Int) ∧ Hid (∀ j y,j < k → (encP p)[j]? = some y → wrI p y = 0) ∧ ∃ z,wr = plus X z) (fun iv _ _=>n - (intOf iv).toNat)
 case atStart=>exact ⟨0,Nat.zero_le _,rfl,Lib.hid (fun j y hj _=>absurd hj (Nat.not_lt_zero j)),_,(plus_self X).symm⟩
 case round =>
  obtain ⟨k,hk,rfl,hs,zr,rfl⟩:=hrel
  by_cases hlt:k < n
  ·obtain ⟨it,hit⟩:∃ z,(encP p)[k]? = some z:=⟨(encP p)[k]'(by rw [hn'.out];exact hlt),List.getElem?_eq_getElem _⟩
   have hmem:=List.mem_of_getElem? hit
   obtain ⟨pa,hpa,hc⟩:=rX'.out k it hit
   have hag:=wr_agree p w hin'.out hz'.out hB'.out it hmem (safe_next p k it hit hs.out)
   have hok:=enc_ok p w hin'.out hz'.out it hmem
   have hone:=one_kp p w hin'.out hz'.out it hok
   rw [hag,It.v_cs] at hone
   obtain ⟨zX,hzX⟩:=hzX'.out
   obtain ⟨zw,hzw⟩:∃ x,X = plus w x:=by rw [hzX,hzU'.out,plus_plus];exact ⟨_,rfl⟩
   have q1:=Lib.hid (kp_at hzw hone)
   obtain ⟨E,hE⟩:∃ E,wrI p it = E:=⟨_,rfl⟩
   rw [hE] at q1
   have hsome:=Lib.hid (fun (h:E ≠ 0)=>(scan_some p (encP p) 0 k it hit hs.out (by rw [hE];exact h)).symm.trans hR'.out)
   have hstep:=Lib.hid (fun (h:E = 0)=>(fun j y (hj:j < k + 1) (hy:(encP p)[j]? = some y)=>by
    by_cases e:j < k
    ·exact hs.out j y e hy
    ·obtain rfl:j = k:=by omega
     rw [hit] at hy
     obtain rfl:it = y:=by simpa using hy
     exact hE.trans h:∀ j y,j < k + 1 → (encP p)[j]? = some y → wrI p y = 0))
   rw [hE] at hsome
   have a6:=Lib.hid (wr_succ2 k n hlt hl'.out)
   have cells:∀ j v,it.cs[j]? = some v → ∀ y,(plus X y).cell? ((pa.add (k * 17)).add j) = some v:=fun j v hj y=>cell_keep (hc j v hj) y
   have hcs:∃ c0 c1 c2 c3 c4 c5 c6 c7 c8 c9 c10 c11 c12 c13 c14 c15 c16,it.cs = [c0,c1,c2,c3,c4,c5,c6,c7,c8,c9,c10,c11,c12,c13,c14,c15,c16]:=by
    cases it <;> exact ⟨_,_,_,_,_,_,_,_,_,_,_,_,_,_,_,_,_,rfl⟩
   obtain ⟨c0,c1,c2,c3,c4,c5,c6,c7,c8,c9,c10,c11,c12,c13,c14,c15,c16,hcs⟩:=hcs
   rw [hcs] at cells q1
   have hcW:=fun y=>(hcs ▸ hc.plus y:CellsAt (plus X y) (pa.add (k * 17)) [c0,c1,c2,c3,c4,c5,c6,c7,c8,c9,c10,c11,c12,c13,c14,c15,c16])
   have d0:=fun y=>(hcW y).c0 _ rfl
   have d1:=fun y=>(hcW y).cs 0 _ rfl
   have d2:=fun y=>(hcW y).cs 1 _ rfl
   have d3:=fun y=>(hcW y).cs 2 _ rfl
   have d4:=fun y=>(hcW y).cs 3 _ rfl
   have d5:=fun y=>(hcW y).cs 4 _ rfl
   have d6:=fun y=>(hcW y).cs 5 _ rfl
   have d7:=fun y=>(hcW y).cs 6 _ rfl
   have d8:=fun y=>(hcW y).cs 7 _ rfl
   have d9:=fun y=>(hcW y).cs 8 _ rfl
   have d10:=fun y=>(hcW y).cs 9 _ rfl
   have d11:=fun y=>(hcW y).cs 10 _ rfl
   have d12:=fun y=>(hcW y).cs 11 _ rfl
   have d13:=fun y=>(hcW y).cs 12 _ rfl
   have d14:=fun y=>(hcW y).cs 13 _ rfl
   have d15:=fun y=>(hcW y).cs 14 _ rfl
   have d16:=fun y=>(hcW y).cs 15 _ rfl
   have e0:=lift_cell hzX cp0
   have e1:=lift_cell hzX cp1
   have e2:=lift_cell hzX cp2
   have e3:=lift_cell hzX cp3
   have e4:=lift_cell hzX cp4
   have e5:=lift_cell hzX cp5
   have e6:=lift_cell hzX cp6
   rw [hpa]
   clear cells hcW hc hcs hag hok hone hmem hit hs hE hzX hzw cp0 cp1 cp2 cp3 cp4 cp5 cp6
   by_cases z0:E = 0
   ·have hs2:=Lib.hid (hstep.out z0)
    subst z0
    clear hsome hstep
    go_upto_region 7 with (fail)
    refine wp_region_own (by kernel_rfl) (by kernel_rfl) ?_
    repeat (go_big_quiet_step (first | (with_reducible exact q1.out _)))
    refine wpQuiet_nil ?_
    rintro _ ⟨y2,rfl⟩
    go_wp2
    go_roundw
    case rel=>exact ⟨k + 1,hlt,congrArg (Value.int .i64) a6.out,hs2,_,rfl⟩
    case measure=>exact step_less k n hlt a6.out
   ·have hs2:=Lib.hid (hsome.out z0)
    have z1:(E == 0) = false:=by simpa using z0
    clear hsome hstep z0
    go_upto_region 7 with (fail)
    refine wp_region_own (by kernel_rfl) (by kernel_rfl) ?_
    repeat (go_big_quiet_step (first | (with_reducible exact q1.out _)))
    refine wpQuiet_nil ?_
    rintro _ ⟨y2,rfl⟩
    go_wp2
    go_ret2
    exact ⟨by rw [← hs2.out];simp,by obtain ⟨z,h⟩:=hzX'.out;rw [h,hzU'.out,plus_plus,plus_plus];exact ⟨_,rfl⟩⟩
  ·obtain rfl:k = n:=by omega
   have hs2:=Lib.hid ((scan_none p (encP p) 0 (fun j y hj hy=>hs.out j y (by rw [hn'.out] at hj;exact hj) hy)).symm.trans hR'.out)
   rw [hn'.out] at hs2
   clear hs hlt hk
   go_wp2
   go_ret2
   exact ⟨by rw [← hs2.out];simp,by obtain ⟨z,h⟩:=hzX'.out;rw [h,hzU'.out,plus_plus,plus_plus];exact ⟨_,rfl⟩⟩
/-- The document's Check hands back what the landed one does. -/
theorem r_check (p:Pr) (w:World) (hin:p.In w) (hz:p.sz ≤ 1048576):Calls Tryz.prog 8 #[.agg #[.slice p.headers.p p.headers.l.length p.headers.cap,.slice p.metas.p p.metas.l.length p.metas.cap,.slice p.states.p p.states.l.length p.states.cap,.slice p.actions.p p.actions.l.length p.actions.cap,.slice p.tables.p p.tables.l.length p.tables.cap,.slice p.control.p p.control.l.length p.control.cap,.slice p.emit.p p.emit.l.length p.emit.cap]] w fun e w'=>e = .returned (.tuple #[.int .i64 (chkN p),.int .i64 (chkE p)]) ∧ ∃ x,w' = plus w x:=by
 unfold chkN chkE
 cases hB:prB p with
 | true=>exact r_check_yes p w hin hz hB
 | false=>exact r_check_no p w hin hz hB
end Go.Proofs.YtlmhldcebllckaaGreat
