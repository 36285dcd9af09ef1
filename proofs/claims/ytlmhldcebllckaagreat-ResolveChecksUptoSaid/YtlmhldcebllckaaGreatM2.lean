/-
  WHAT IS PROVED HERE: a part of the proof (made narrower and merged by program; the parts: SH).
-/
import Derived.Test.YtlmhldcebllckaaGreatRows
import Derived.WalkKit
import Derived.Lib.Hide
import Derived.WalkSpells
import Derived.WalkLawsBesides
import Derived.Deep.CutRange
import Derived.Deep.RegionHeld3
import Derived.Test.YtlmhldcebllckaaGreatM1
namespace Go.Proofs.YtlmhldcebllckaaGreat
open Go.RowKit
/-- The same but for Args? -/
def Ex.top (a b:Ex):Bool:=a.op == b.op && (a.lit.w == b.lit.w && (a.lit.h == b.lit.h && a.lit.l == b.lit.l)) && a.head.toList == b.head.toList && a.name.toList == b.name.toList && a.hi == b.hi && a.lo == b.lo
mutual
/-- The same? -/
def Ex.same:Ex → Ex → Bool
 | .mk op lit hd nm h l _ _ args,b=>Ex.top (.mk op lit hd nm h l none 0 []) b && Ex.sames args b.args
def Ex.sames:List Ex → List Ex → Bool
 | [],[]=>true
 | a :: l,b :: r=>a.same b && Ex.sames l r
 | [],_ :: _=>false
 | _ :: _,[]=>false
end
theorem Ex.same_eq (a b:Ex):a.same b = (Ex.top a b && Ex.sames a.args b.args):=by cases a;rw [Ex.same];rfl
theorem plus_alloc2 (w:World) (y:Ext) (a b:Obj):∃ x,((plus w y).alloc a).alloc b = plus w x:=by
 obtain ⟨z,hz⟩:=plus_of_below (((Below.refl (plus w y).heap.size (plus w y)).alloc (Nat.le_refl _) a).alloc (by simp) b)
 rw [hz,plus_plus]
 exact ⟨_,rfl⟩
set_option maxHeartbeats 8000000 in
theorem same_expr_of (a b:Ex) (w:World) (s:Bool) (h:∀ y,Calls Tryz.prog 161 #[.slice a.p a.args.length a.cap,.slice b.p b.args.length b.cap] (plus w y) fun r w'=>r = .returned (.bool s) ∧ ∃ x,w' = plus w x) :
  PureIn Tryz.prog w 147 #[a.val,b.val] (.bool (Ex.top a b && s)):=by
 intro y0
 obtain ⟨op,⟨lw,lh,ll⟩,hd,nm,eh,el,p,cap,args⟩:=a
 obtain ⟨op2,⟨lw2,lh2,ll2⟩,hd2,nm2,eh2,el2,p2,cap2,args2⟩:=b
 show Calls Tryz.prog 147 #[.agg #[.int .u8 op,.int .i64 lw,.int .u64 lh,.int .u64 ll,.string hd,.string nm,.int .i64 eh,.int .i64 el,.slice p args.length cap],.agg #[.int .u8 op2,.int .i64 lw2,.int .u64 lh2,.int .u64 ll2,.string hd2,.string nm2,.int .i64 eh2,.int .i64 el2,.slice p2 args2.length cap2]] (plus w y0) fun e w'=>e = .returned (.bool ((op == op2 && (lw == lw2 && (lh == lh2 && ll == ll2)) && hd.toList == hd2.toList && nm.toList == nm2.toList && eh == eh2 && el == el2) && s)) ∧ ∃ x,w' = plus w x
 simp only [Ex.p,Ex.args,Ex.cap] at h
 generalize args.length = n1 at h ⊢
 generalize args2.length = n2 at h ⊢
 by_cases hne:op = op2
 case neg =>
  have hF:=Lib.hid (show false = ((op == op2 && (lw == lw2 && (lh == lh2 && ll == ll2)) && hd.toList == hd2.toList && nm.toList == nm2.toList && eh == eh2 && el == el2) && s) by simp [hne])
  clear h
  go_enter Tryz.func147,Tryz.ntmps147
  go_wp2_with fail
  go_ret
  exact ⟨rb hF.out,plus_alloc2 _ _ _ _⟩
 subst hne
 by_cases hne:lw = lw2
 case neg =>
  have hF:=Lib.hid (show false = ((op == op && (lw == lw2 && (lh == lh2 && ll == ll2)) && hd.toList == hd2.toList && nm.toList == nm2.toList && eh == eh2 && el == el2) && s) by simp [hne])
  clear h
  go_enter Tryz.func147,Tryz.ntmps147
  go_wp2_with fail
  go_ret
  exact ⟨rb hF.out,plus_alloc2 _ _ _ _⟩
 subst hne
 by_cases hne:lh = lh2
 case neg =>
  have hF:=Lib.hid (show false = ((op == op && (lw == lw && (lh == lh2 && ll == ll2)) && hd.toList == hd2.toList && nm.toList == nm2.toList && eh == eh2 && el == el2) && s) by simp [hne])
  clear h
  go_enter Tryz.func147,Tryz.ntmps147
  go_wp2_with fail
  go_ret
  exact ⟨rb hF.out,plus_alloc2 _ _ _ _⟩
 subst hne
 by_cases hne:ll = ll2
 case neg =>
  have hF:=Lib.hid (show false = ((op == op && (lw == lw && (lh == lh && ll == ll2)) && hd.toList == hd2.toList && nm.toList == nm2.toList && eh == eh2 && el == el2) && s) by simp [hne])
  clear h
  go_enter Tryz.func147,Tryz.ntmps147
  go_wp2_with fail
  go_ret
  exact ⟨rb hF.out,plus_alloc2 _ _ _ _⟩
 subst hne
 by_cases hne:(hd.toList == hd2.toList) = true
 case neg =>
  have hne:(hd.toList == hd2.toList) = false:=by simpa using hne
  have hF:=Lib.hid (show false = ((op == op && (lw == lw && (lh == lh && ll == ll)) && hd.toList == hd2.toList && nm.toList == nm2.toList && eh == eh2 && el == el2) && s) by simp [hne])
  clear h
  go_enter Tryz.func147,Tryz.ntmps147
  go_wp2_with fail
  go_ret
  exact ⟨rb hF.out,plus_alloc2 _ _ _ _⟩
 have e_hd:=hne
 clear hne
 by_cases hne:(nm.toList == nm2.toList) = true
 case neg =>
  have hne:(nm.toList == nm2.toList) = false:=by simpa using hne
  have hF:=Lib.hid (show false = ((op == op && (lw == lw && (lh == lh && ll == ll)) && hd.toList == hd2.toList && nm.toList == nm2.toList && eh == eh2 && el == el2) && s) by simp [hne])
  clear h
  go_enter Tryz.func147,Tryz.ntmps147
  go_wp2_with fail
  go_ret
  exact ⟨rb hF.out,plus_alloc2 _ _ _ _⟩
 have e_nm:=hne
 clear hne
 by_cases hne:eh = eh2
 case neg =>
  have hF:=Lib.hid (show false = ((op == op && (lw == lw && (lh == lh && ll == ll)) && hd.toList == hd2.toList && nm.toList == nm2.toList && eh == eh2 && el == el2) && s) by simp [hne])
  clear h
  go_enter Tryz.func147,Tryz.ntmps147
  go_wp2_with fail
  go_ret
  exact ⟨rb hF.out,plus_alloc2 _ _ _ _⟩
 subst hne
 by_cases hne:el = el2
 case neg =>
  have hF:=Lib.hid (show false = ((op == op && (lw == lw && (lh == lh && ll == ll)) && hd.toList == hd2.toList && nm.toList == nm2.toList && eh == eh && el == el2) && s) by simp [hne])
  clear h
  go_enter Tryz.func147,Tryz.ntmps147
  go_wp2_with fail
  go_ret
  exact ⟨rb hF.out,plus_alloc2 _ _ _ _⟩
 subst hne
 have hF:=Lib.hid (show s = ((op == op && (lw == lw && (lh == lh && ll == ll)) && hd.toList == hd2.toList && nm.toList == nm2.toList && eh == eh && el == el) && s) by simp [e_hd,e_nm])
 have h':=Lib.hid h
 clear h
 go_enter Tryz.func147,Tryz.ntmps147
 go_wp2_with fail
 obtain ⟨z,hz⟩:=plus_alloc2 w y0 (.cells #[.int .u8 op,.int .i64 lw,.int .u64 lh,.int .u64 ll,.string hd,.string nm,.int .i64 eh,.int .i64 el,.slice p n1 cap] 68) (.cells #[.int .u8 op,.int .i64 lw,.int .u64 lh,.int .u64 ll,.string hd2,.string nm2,.int .i64 eh,.int .i64 el,.slice p2 n2 cap2] 68)
 rw [hz]
 refine (h'.out _).mono ?_
 rintro r w' ⟨rfl,x,rfl⟩
 go_wp2
 go_ret
 exact ⟨rb hF.out,x,rfl⟩
theorem Ex.sames_drop (l r:List Ex) (k:Nat) (x y:Ex) (hx:l[k]? = some x) (hy:r[k]? = some y):Ex.sames (l.drop k) (r.drop k) = (x.same y && Ex.sames (l.drop (k + 1)) (r.drop (k + 1))):=by
 obtain ⟨h1,rfl⟩:=List.getElem?_eq_some_iff.1 hx
 obtain ⟨h2,rfl⟩:=List.getElem?_eq_some_iff.1 hy
 rw [List.drop_eq_getElem_cons h1,List.drop_eq_getElem_cons h2,Ex.sames]
theorem Ex.sames_length:∀ l r:List Ex,l.length ≠ r.length → Ex.sames l r = false
 | [],[],h=>by simp at h
 | [],_ :: _,_=>by rw [Ex.sames]
 | _ :: _,[],_=>by rw [Ex.sames]
 | a :: l,b :: r,h=>by
  rw [Ex.sames,Ex.sames_length l r (by simpa using h),Bool.and_false]
def SameExprAt (a b:Ex):Prop:=∀ w:World,a.In w → b.In w → a.wt ≤ 1048576 → b.wt ≤ 1048576 → PureIn Tryz.prog w 147 #[a.val,b.val] (.bool (a.same b))
set_option maxHeartbeats 8000000 in
theorem same_exprs_of (A B:Sl Ex) (w:World) (ih:∀ x ∈ A.l,∀ y ∈ B.l,SameExprAt x y) (hA:A.In w 9 Ex.cells (Ex.In w)) (hB:B.In w 9 Ex.cells (Ex.In w)) (bA:A.size Ex.wt ≤ 1048576) (bB:B.size Ex.wt ≤ 1048576) :
  PureIn Tryz.prog w 161 #[A.v,B.v] (.bool (Ex.sames A.l B.l)):=by
 intro y0
 obtain ⟨p,cap,l⟩:=A
 obtain ⟨q,cbp,r⟩:=B
 simp only [Sl.size,Sl.v] at bA bB ih ⊢
 have hl:l.length ≤ 1048576:=by have:=length_le_sum Ex.wt Ex.wt_pos l;omega
 obtain ⟨n,hn⟩:∃ n,l.length = n:=⟨_,rfl⟩
 obtain ⟨m,hm⟩:∃ n,r.length = n:=⟨_,rfl⟩
 have hA:=hA.plus (fun _ a=>a.plus y0) y0
 have hB:=hB.plus (fun _ a=>a.plus y0) y0
 obtain ⟨W,hW⟩:∃ W,plus w y0 = W:=⟨_,rfl⟩
 rw [hW] at hA hB ⊢
 have hW':=Lib.hid hW
 rw [hn] at hl
 by_cases hne:n = m
 case neg =>
  have hF:=Lib.hid (show false = Ex.sames l r from (Ex.sames_length l r (by omega)).symm)
  rw [hn,hm]
  clear ih hA hB bA bB hW hl hn hm
  go_enter Tryz.func161,Tryz.ntmps161
  go_wp2
  go_ret
  exact ⟨rb hF.out,_,hW'.out.symm⟩
 subst hne
 rw [hn,hm]
 obtain ⟨R,hR⟩:∃ R,Ex.sames l r = R:=⟨_,rfl⟩
 rw [hR]
 have h0:Ex.sames (l.drop 0) (r.drop 0) = R:=hR
 have ih':=Lib.hid ih
 have hA':=Lib.hid hA
 have hB':=Lib.hid hB
 have bA':=Lib.hid bA
 have bB':=Lib.hid bB
 have hn':=Lib.hid hn
 have hm':=Lib.hid hm
 have hl':=Lib.hid hl
 have h0':=Lib.hid h0
 clear ih hA hB bA bB hW hl hn hm hR h0
 go_enter Tryz.func161,Tryz.ntmps161
 go_wp2
 go_loopw [5] (fun iv wr=>∃ k:Nat,k ≤ n ∧ iv = .int .i64 (k:Int) ∧ Hid (Ex.sames (l.drop k) (r.drop k) = R) ∧ ∃ y,wr = plus W y) (fun iv _=>n - (intOf iv).toNat)
 case atStart=>exact ⟨0,Nat.zero_le _,rfl,h0',⟨#[],W.drawn⟩,(plus_self W).symm⟩
 case round =>
  obtain ⟨k,hk,rfl,hs,y,rfl⟩:=hrel
  by_cases hlt:k < n
  ·obtain ⟨a,ha⟩:∃ s,l[k]? = some s:=⟨l[k]'(by rw [hn'.out];exact hlt),List.getElem?_eq_getElem _⟩
   obtain ⟨b,hb⟩:∃ s,r[k]? = some s:=⟨r[k]'(by rw [hm'.out];exact hlt),List.getElem?_eq_getElem _⟩
   obtain ⟨pa,rfl,hc⟩:=hA'.out.row k a ha
   obtain ⟨pb,rfl,hd⟩:=hB'.out.row k b hb
   have hma:a ∈ l:=List.mem_of_getElem? ha
   have hmb:b ∈ r:=List.mem_of_getElem? hb
   have q1:=ih'.out a hma b hmb W (hA'.out.kids a hma) (hB'.out.kids b hmb) (Nat.le_trans (le_sum_of Ex.wt l a hma) bA'.out) (Nat.le_trans (le_sum_of Ex.wt r b hmb) bB'.out)
   have hs1:(a.same b && Ex.sames (l.drop (k + 1)) (r.drop (k + 1))) = R:=by rw [← Ex.sames_drop l r k a b ha hb];exact hs.out
   obtain ⟨Z,hZ⟩:∃ Z,a.same b = Z:=⟨_,rfl⟩
   rw [hZ] at q1 hs1
   obtain ⟨op,⟨lw,lh,ll⟩,hd1,nm,eh,el,ep,ecap,args⟩:=a
   obtain ⟨op2,⟨lw2,lh2,ll2⟩,hd2,nm2,eh2,el2,ep2,ecap2,args2⟩:=b
   have q1:PureIn Tryz.prog W 147 #[.agg #[.int .u8 op,.int .i64 lw,.int .u64 lh,.int .u64 ll,.string hd1,.string nm,.int .i64 eh,.int .i64 el,.slice ep args.length ecap],.agg #[.int .u8 op2,.int .i64 lw2,.int .u64 lh2,.int .u64 ll2,.string hd2,.string nm2,.int .i64 eh2,.int .i64 el2,.slice ep2 args2.length ecap2]] _:=q1
   have d0:=fun y=>(hc.plus y).c0 _ rfl
   have d1:=fun y=>(hc.plus y).cs 0 _ rfl
   have d2:=fun y=>(hc.plus y).cs 1 _ rfl
   have d3:=fun y=>(hc.plus y).cs 2 _ rfl
   have d4:=fun y=>(hc.plus y).cs 3 _ rfl
   have d5:=fun y=>(hc.plus y).cs 4 _ rfl
   have d6:=fun y=>(hc.plus y).cs 5 _ rfl
   have d7:=fun y=>(hc.plus y).cs 6 _ rfl
   have d8:=fun y=>(hc.plus y).cs 7 _ rfl
   have e0:=fun y=>(hd.plus y).c0 _ rfl
   have e1:=fun y=>(hd.plus y).cs 0 _ rfl
   have e2:=fun y=>(hd.plus y).cs 1 _ rfl
   have e3:=fun y=>(hd.plus y).cs 2 _ rfl
   have e4:=fun y=>(hd.plus y).cs 3 _ rfl
   have e5:=fun y=>(hd.plus y).cs 4 _ rfl
   have e6:=fun y=>(hd.plus y).cs 5 _ rfl
   have e7:=fun y=>(hd.plus y).cs 6 _ rfl
   have e8:=fun y=>(hd.plus y).cs 7 _ rfl
   simp only [Ex.op,Ex.lit,Ex.head,Ex.name,Ex.hi,Ex.lo,Ex.p,Ex.cap,Ex.args] at d0 d1 d2 d3 d4 d5 d6 d7 d8 e0 e1 e2 e3 e4 e5 e6 e7 e8
   have q1':=Lib.hid q1
   have a6:=Lib.hid (wr_succ k n hlt hl'.out)
   clear q1 hZ hma hmb hc hd ha hb hs
   cases Z with
   | true =>
    have hs2:=Lib.hid (show Ex.sames (l.drop (k + 1)) (r.drop (k + 1)) = R by rw [← hs1,Bool.true_and])
    clear hs1
    go_wp2
    refine wp_region_own (by kernel_rfl) (by kernel_rfl) ?_
    repeat (go_big_quiet_step (first | (with_reducible exact q1'.out _)))
    refine wpQuiet_nil ?_
    rintro _ ⟨y1,rfl⟩
    go_wp2
    go_roundw
    case rel=>exact ⟨k + 1,hlt,congrArg (Value.int .i64) a6.out,hs2,y1,rfl⟩
    case measure=>exact step_less k n hlt a6.out
   | false =>
    have hs2:=Lib.hid (show false = R by rw [← hs1,Bool.false_and])
    clear hs1
    go_wp2
    refine wp_region_own (by kernel_rfl) (by kernel_rfl) ?_
    repeat (go_big_quiet_step (first | (with_reducible exact q1'.out _)))
    refine wpQuiet_nil ?_
    rintro _ ⟨y1,rfl⟩
    go_wp2
    go_ret
    exact ⟨rb hs2.out,by rw [← hW'.out,plus_plus];exact ⟨_,rfl⟩⟩
  ·obtain rfl:k = n:=by omega
   have hs2:=Lib.hid (show true = R by
    rw [← hs.out,List.drop_of_length_le (by rw [hn'.out];exact Nat.le_refl _),List.drop_of_length_le (by rw [hm'.out];exact Nat.le_refl _),Ex.sames])
   clear hs hlt hk
   go_wp2
   go_ret
   exact ⟨rb hs2.out,by rw [← hW'.out,plus_plus];exact ⟨_,rfl⟩⟩
theorem same_expr_at:∀ a b:Ex,SameExprAt a b:=fun a=>Ex.ind (Q:=fun a=>∀ b,SameExprAt a b) (fun a ih b w ha hb wa wb=>by
 rw [Ex.same_eq]
 have h1:=ha
 have h2:=hb
 obtain ⟨_,_,_,_,_,_,_,l1,c1,r1,k1⟩:=h1
 obtain ⟨_,_,_,_,_,_,_,l2,c2,r2,k2⟩:=h2
 have e1:=Ex.wt_eq a
 have e2:=Ex.wt_eq b
 exact same_expr_of a b w _ (same_exprs_of ⟨a.p,a.cap,a.args⟩ ⟨b.p,b.cap,b.args⟩ w (fun x hx y _=>ih x hx y) ⟨l1,c1,r1,k1⟩ ⟨l2,c2,r2,k2⟩ (show (a.args.map Ex.wt).sum ≤ _ by omega) (show (b.args.map Ex.wt).sum ≤ _ by omega))) a
end Go.Proofs.YtlmhldcebllckaaGreat
