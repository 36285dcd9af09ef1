/-
  WHAT IS PROVED HERE: a part of the proof (made narrower and merged by program; the parts: Wb Wc).
-/
import Derived.Test.YtlmhldcebllckaaGreatRows
import Derived.WalkKit
import Derived.Lib.Hide
import Derived.WalkSpells
import Derived.WalkLawsBesides
import Derived.Test.YtlmhldcebllckaaGreatM6
import Derived.Test.YtlmhldcebllckaaGreatM17
import Derived.Test.YtlmhldcebllckaaGreatM7
namespace Go.Proofs.YtlmhldcebllckaaGreat
open Go.RowKit
theorem plus_alloc1' (w:World) (o:Obj):∃ x,w.alloc o = plus w x:=by
 have:=plus_alloc1 w ⟨#[],w.drawn⟩ o
 rwa [plus_self] at this
set_option maxRecDepth 100000 in
set_option maxHeartbeats 8000000 in
theorem r_Header (p:Pr) (w:World) (h:p.In w) (hz:p.sz ≤ 1048576) (s:ByteArray):Kp Tryz.prog w 124 #[.agg #[.slice p.headers.p p.headers.l.length p.headers.cap,.slice p.metas.p p.metas.l.length p.metas.cap,.slice p.states.p p.states.l.length p.states.cap,.slice p.actions.p p.actions.l.length p.actions.cap,.slice p.tables.p p.tables.l.length p.tables.cap,.slice p.control.p p.control.l.length p.control.cap,.slice p.emit.p p.emit.l.length p.emit.cap],.string s] (.int .i64 (hdI p.headers.l s)):=by
 intro y0
 have hp:=h.plus y0
 obtain ⟨W,hW⟩:∃ W,plus w y0 = W:=⟨_,rfl⟩
 rw [hW] at hp ⊢
 clear hW
 have hl:p.headers.l.length ≤ 1048576:=by obtain ⟨_,_,_,_,_,_⟩:=pr_len1 hz;assumption
 have hA:=fun z=>hp.headers.row.plus z
 obtain ⟨n,hn⟩:∃ n,p.headers.l.length = n:=⟨_,rfl⟩
 obtain ⟨R,hR⟩:∃ R,hdI p.headers.l s = R:=⟨_,rfl⟩
 have h0:firstI (fun x=>x.name.toList == s.toList) (p.headers.l.drop 0) 0 = R:=hR
 rw [hn,hR]
 rw [hn] at hl
 have hA':=Lib.hid hA
 have hn':=Lib.hid hn
 have hl':=Lib.hid hl
 have h0':=Lib.hid h0
 clear hA hl hn hR h0 h hz hp
 go_enter Tryz.func124,Tryz.ntmps124
 go_wp2
 generalize hU:W.alloc _ = U
 have hx:Hid (∃ z,U = plus W z):=Lib.hid (hU ▸ plus_alloc1' W _)
 have hA':=Lib.hid (show RowAt U 2 _ _ _ from by obtain ⟨z,h⟩:=hx.out;rw [h];exact hA'.out z)
 have u0:=(congrArg (fun X:World=>X.cell? ⟨W.heap.size,0,none⟩) hU).symm.trans ((cell_new W _ _ _ 0 rfl).trans rfl)
 clear hU
 go_loopw [5] (fun iv wr=>∃ k:Nat,k ≤ n ∧ iv = .int .i64 (k:Int) ∧ Hid (firstI (fun x=>x.name.toList == s.toList) (p.headers.l.drop k) k = R) ∧ wr = U) (fun iv _=>n - (intOf iv).toNat)
 case atStart=>exact ⟨0,Nat.zero_le _,rfl,h0',rfl⟩
 case round =>
  obtain ⟨k,hk,rfl,hs,rfl⟩:=hrel
  by_cases hlt:k < n
  ·obtain ⟨a,ha⟩:∃ s,p.headers.l[k]? = some s:=⟨p.headers.l[k]'(by rw [hn'.out];exact hlt),List.getElem?_eq_getElem _⟩
   obtain ⟨pa,hpa,hc⟩:=hA'.out k a ha
   have hs1:=(firstI_drop (fun x=>x.name.toList == s.toList) p.headers.l k a ha).symm.trans hs.out
   have d0:=hc.c0 _ rfl
   have a6:=Lib.hid (wr_succ k n hlt hl'.out)
   clear hc ha hs
   rw [hpa]
   by_cases hZ:(a.name.toList == s.toList) = true
   ·have hs2:=Lib.hid (show (k:Int) = R from by rw [← hs1,if_pos hZ])
    clear hs1
    go_wp2
    go_ret
    exact ⟨congrArg (fun z=>Ending.returned (Value.int .i64 z)) hs2.out,hx.out⟩
   ·have hs2:=Lib.hid (show firstI (fun x=>x.name.toList == s.toList) (p.headers.l.drop (k + 1)) (k + 1) = R by rw [← hs1,if_neg hZ])
    have hZ:(a.name.toList == s.toList) = false:=by simpa using hZ
    clear hs1
    go_wp2
    go_roundw
    case rel=>exact ⟨k + 1,hlt,congrArg (Value.int .i64) a6.out,hs2,(by first | rfl | trivial)⟩
    case measure=>exact step_less k n hlt a6.out
  ·obtain rfl:k = n:=by omega
   have hs2:=Lib.hid (show (-1:Int) = R from by
    rw [← hs.out,List.drop_of_length_le (by rw [hn'.out];exact Nat.le_refl _)];rfl)
   clear hs hlt hk
   go_wp2
   go_ret
   exact ⟨congrArg (fun z=>Ending.returned (Value.int .i64 z)) hs2.out,hx.out⟩
set_option maxRecDepth 100000 in
set_option maxHeartbeats 8000000 in
theorem r_Action (p:Pr) (w:World) (h:p.In w) (hz:p.sz ≤ 1048576) (s:ByteArray):Kp Tryz.prog w 131 #[.agg #[.slice p.headers.p p.headers.l.length p.headers.cap,.slice p.metas.p p.metas.l.length p.metas.cap,.slice p.states.p p.states.l.length p.states.cap,.slice p.actions.p p.actions.l.length p.actions.cap,.slice p.tables.p p.tables.l.length p.tables.cap,.slice p.control.p p.control.l.length p.control.cap,.slice p.emit.p p.emit.l.length p.emit.cap],.string s] (.int .i64 (acI p.actions.l s)):=by
 intro y0
 have hp:=h.plus y0
 obtain ⟨W,hW⟩:∃ W,plus w y0 = W:=⟨_,rfl⟩
 rw [hW] at hp ⊢
 clear hW
 have hl:p.actions.l.length ≤ 1048576:=by obtain ⟨_,_,_,_,_,_⟩:=pr_len1 hz;assumption
 have hA:=fun z=>hp.actions.row.plus z
 obtain ⟨n,hn⟩:∃ n,p.actions.l.length = n:=⟨_,rfl⟩
 obtain ⟨R,hR⟩:∃ R,acI p.actions.l s = R:=⟨_,rfl⟩
 have h0:firstI (fun x=>x.name.toList == s.toList) (p.actions.l.drop 0) 0 = R:=hR
 rw [hn,hR]
 rw [hn] at hl
 have hA':=Lib.hid hA
 have hn':=Lib.hid hn
 have hl':=Lib.hid hl
 have h0':=Lib.hid h0
 clear hA hl hn hR h0 h hz hp
 go_enter Tryz.func131,Tryz.ntmps131
 go_wp2
 generalize hU:W.alloc _ = U
 have hx:Hid (∃ z,U = plus W z):=Lib.hid (hU ▸ plus_alloc1' W _)
 have hA':=Lib.hid (show RowAt U 3 _ _ _ from by obtain ⟨z,h⟩:=hx.out;rw [h];exact hA'.out z)
 have u0:=(congrArg (fun X:World=>X.cell? ⟨W.heap.size,3,none⟩) hU).symm.trans ((cell_new W _ _ _ 3 rfl).trans rfl)
 clear hU
 go_loopw [5] (fun iv wr=>∃ k:Nat,k ≤ n ∧ iv = .int .i64 (k:Int) ∧ Hid (firstI (fun x=>x.name.toList == s.toList) (p.actions.l.drop k) k = R) ∧ wr = U) (fun iv _=>n - (intOf iv).toNat)
 case atStart=>exact ⟨0,Nat.zero_le _,rfl,h0',rfl⟩
 case round =>
  obtain ⟨k,hk,rfl,hs,rfl⟩:=hrel
  by_cases hlt:k < n
  ·obtain ⟨a,ha⟩:∃ s,p.actions.l[k]? = some s:=⟨p.actions.l[k]'(by rw [hn'.out];exact hlt),List.getElem?_eq_getElem _⟩
   obtain ⟨pa,hpa,hc⟩:=hA'.out k a ha
   have hs1:=(firstI_drop (fun x=>x.name.toList == s.toList) p.actions.l k a ha).symm.trans hs.out
   have d0:=hc.c0 _ rfl
   have a6:=Lib.hid (wr_succ k n hlt hl'.out)
   clear hc ha hs
   rw [hpa]
   by_cases hZ:(a.name.toList == s.toList) = true
   ·have hs2:=Lib.hid (show (k:Int) = R from by rw [← hs1,if_pos hZ])
    clear hs1
    go_wp2
    go_ret
    exact ⟨congrArg (fun z=>Ending.returned (Value.int .i64 z)) hs2.out,hx.out⟩
   ·have hs2:=Lib.hid (show firstI (fun x=>x.name.toList == s.toList) (p.actions.l.drop (k + 1)) (k + 1) = R by rw [← hs1,if_neg hZ])
    have hZ:(a.name.toList == s.toList) = false:=by simpa using hZ
    clear hs1
    go_wp2
    go_roundw
    case rel=>exact ⟨k + 1,hlt,congrArg (Value.int .i64) a6.out,hs2,(by first | rfl | trivial)⟩
    case measure=>exact step_less k n hlt a6.out
  ·obtain rfl:k = n:=by omega
   have hs2:=Lib.hid (show (-1:Int) = R from by
    rw [← hs.out,List.drop_of_length_le (by rw [hn'.out];exact Nat.le_refl _)];rfl)
   clear hs hlt hk
   go_wp2
   go_ret
   exact ⟨congrArg (fun z=>Ending.returned (Value.int .i64 z)) hs2.out,hx.out⟩
set_option maxRecDepth 100000 in
set_option maxHeartbeats 8000000 in
theorem r_Table (p:Pr) (w:World) (h:p.In w) (hz:p.sz ≤ 1048576) (s:ByteArray):Kp Tryz.prog w 129 #[.agg #[.slice p.headers.p p.headers.l.length p.headers.cap,.slice p.metas.p p.metas.l.length p.metas.cap,.slice p.states.p p.states.l.length p.states.cap,.slice p.actions.p p.actions.l.length p.actions.cap,.slice p.tables.p p.tables.l.length p.tables.cap,.slice p.control.p p.control.l.length p.control.cap,.slice p.emit.p p.emit.l.length p.emit.cap],.string s] (.int .i64 (taI p.tables.l s)):=by
 intro y0
 have hp:=h.plus y0
 obtain ⟨W,hW⟩:∃ W,plus w y0 = W:=⟨_,rfl⟩
 rw [hW] at hp ⊢
 clear hW
 have hl:p.tables.l.length ≤ 1048576:=by obtain ⟨_,_,_,_,_,_⟩:=pr_len1 hz;assumption
 have hA:=fun z=>hp.tables.row.plus z
 obtain ⟨n,hn⟩:∃ n,p.tables.l.length = n:=⟨_,rfl⟩
 obtain ⟨R,hR⟩:∃ R,taI p.tables.l s = R:=⟨_,rfl⟩
 have h0:firstI (fun x=>x.name.toList == s.toList) (p.tables.l.drop 0) 0 = R:=hR
 rw [hn,hR]
 rw [hn] at hl
 have hA':=Lib.hid hA
 have hn':=Lib.hid hn
 have hl':=Lib.hid hl
 have h0':=Lib.hid h0
 clear hA hl hn hR h0 h hz hp
 go_enter Tryz.func129,Tryz.ntmps129
 go_wp2
 generalize hU:W.alloc _ = U
 have hx:Hid (∃ z,U = plus W z):=Lib.hid (hU ▸ plus_alloc1' W _)
 have hA':=Lib.hid (show RowAt U 5 _ _ _ from by obtain ⟨z,h⟩:=hx.out;rw [h];exact hA'.out z)
 have u0:=(congrArg (fun X:World=>X.cell? ⟨W.heap.size,4,none⟩) hU).symm.trans ((cell_new W _ _ _ 4 rfl).trans rfl)
 clear hU
 go_loopw [5] (fun iv wr=>∃ k:Nat,k ≤ n ∧ iv = .int .i64 (k:Int) ∧ Hid (firstI (fun x=>x.name.toList == s.toList) (p.tables.l.drop k) k = R) ∧ wr = U) (fun iv _=>n - (intOf iv).toNat)
 case atStart=>exact ⟨0,Nat.zero_le _,rfl,h0',rfl⟩
 case round =>
  obtain ⟨k,hk,rfl,hs,rfl⟩:=hrel
  by_cases hlt:k < n
  ·obtain ⟨a,ha⟩:∃ s,p.tables.l[k]? = some s:=⟨p.tables.l[k]'(by rw [hn'.out];exact hlt),List.getElem?_eq_getElem _⟩
   obtain ⟨pa,hpa,hc⟩:=hA'.out k a ha
   have hs1:=(firstI_drop (fun x=>x.name.toList == s.toList) p.tables.l k a ha).symm.trans hs.out
   have d0:=hc.c0 _ rfl
   have a6:=Lib.hid (wr_succ k n hlt hl'.out)
   clear hc ha hs
   rw [hpa]
   by_cases hZ:(a.name.toList == s.toList) = true
   ·have hs2:=Lib.hid (show (k:Int) = R from by rw [← hs1,if_pos hZ])
    clear hs1
    go_wp2
    go_ret
    exact ⟨congrArg (fun z=>Ending.returned (Value.int .i64 z)) hs2.out,hx.out⟩
   ·have hs2:=Lib.hid (show firstI (fun x=>x.name.toList == s.toList) (p.tables.l.drop (k + 1)) (k + 1) = R by rw [← hs1,if_neg hZ])
    have hZ:(a.name.toList == s.toList) = false:=by simpa using hZ
    clear hs1
    go_wp2
    go_roundw
    case rel=>exact ⟨k + 1,hlt,congrArg (Value.int .i64) a6.out,hs2,(by first | rfl | trivial)⟩
    case measure=>exact step_less k n hlt a6.out
  ·obtain rfl:k = n:=by omega
   have hs2:=Lib.hid (show (-1:Int) = R from by
    rw [← hs.out,List.drop_of_length_le (by rw [hn'.out];exact Nat.le_refl _)];rfl)
   clear hs hlt hk
   go_wp2
   go_ret
   exact ⟨congrArg (fun z=>Ending.returned (Value.int .i64 z)) hs2.out,hx.out⟩
set_option maxRecDepth 100000 in
set_option maxHeartbeats 8000000 in
theorem r_fieldOf (K:Fd → Prop) (w:World) (A:Sl Fd) (hA:A.In w 2 Fd.cells K) (hl:A.l.length ≤ 1048576) (s:ByteArray):Kp Tryz.prog w 151 #[A.v,.string s] (.int .i64 (fdI A.l s)):=by
 intro y0
 obtain ⟨p,cap,l⟩:=A
 simp only [Sl.v] at hl ⊢
 obtain ⟨n,hn⟩:∃ n,l.length = n:=⟨_,rfl⟩
 have hA:=hA.row.plus y0
 obtain ⟨W,hW⟩:∃ W,plus w y0 = W:=⟨_,rfl⟩
 rw [hW] at hA ⊢
 rw [hn] at hl
 clear hW
 obtain ⟨R,hR⟩:∃ R,fdI l s = R:=⟨_,rfl⟩
 have h0:firstI (fun x=>x.name.toList == s.toList) (l.drop 0) 0 = R:=hR
 rw [hn,hR]
 have hA':=Lib.hid hA
 have hn':=Lib.hid hn
 have hl':=Lib.hid hl
 have h0':=Lib.hid h0
 have hx:Hid (∃ z,W = plus W z):=Lib.hid ⟨_,(plus_self W).symm⟩
 clear hA hl hn hR h0
 go_enter Tryz.func151,Tryz.ntmps151
 go_wp2
 go_loopw [5] (fun iv wr=>∃ k:Nat,k ≤ n ∧ iv = .int .i64 (k:Int) ∧ Hid (firstI (fun x=>x.name.toList == s.toList) (l.drop k) k = R) ∧ wr = W) (fun iv _=>n - (intOf iv).toNat)
 case atStart=>exact ⟨0,Nat.zero_le _,rfl,h0',rfl⟩
 case round =>
  obtain ⟨k,hk,rfl,hs,rfl⟩:=hrel
  by_cases hlt:k < n
  ·obtain ⟨a,ha⟩:∃ s,l[k]? = some s:=⟨l[k]'(by rw [hn'.out];exact hlt),List.getElem?_eq_getElem _⟩
   obtain ⟨pa,hpa,hc⟩:=hA'.out k a ha
   have hs1:=(firstI_drop (fun x=>x.name.toList == s.toList) l k a ha).symm.trans hs.out
   have d0:=hc.c0 _ rfl
   have a6:=Lib.hid (wr_succ k n hlt hl'.out)
   clear hc ha hs
   rw [hpa]
   by_cases hZ:(a.name.toList == s.toList) = true
   ·have hs2:=Lib.hid (show (k:Int) = R from by rw [← hs1,if_pos hZ])
    clear hs1
    go_wp2
    go_ret
    exact ⟨congrArg (fun z=>Ending.returned (Value.int .i64 z)) hs2.out,hx.out⟩
   ·have hs2:=Lib.hid (show firstI (fun x=>x.name.toList == s.toList) (l.drop (k + 1)) (k + 1) = R by rw [← hs1,if_neg hZ])
    have hZ:(a.name.toList == s.toList) = false:=by simpa using hZ
    clear hs1
    go_wp2
    go_roundw
    case rel=>exact ⟨k + 1,hlt,congrArg (Value.int .i64) a6.out,hs2,(by first | rfl | trivial)⟩
    case measure=>exact step_less k n hlt a6.out
  ·obtain rfl:k = n:=by omega
   have hs2:=Lib.hid (show (-1:Int) = R from by
    rw [← hs.out,List.drop_of_length_le (by rw [hn'.out];exact Nat.le_refl _)];rfl)
   clear hs hlt hk
   go_wp2
   go_ret
   exact ⟨congrArg (fun z=>Ending.returned (Value.int .i64 z)) hs2.out,hx.out⟩
set_option maxRecDepth 100000 in
set_option maxHeartbeats 8000000 in
theorem r_index (K:ByteArray → Prop) (w:World) (A:Sl ByteArray) (hA:A.In w 1 strCells K) (hl:A.l.length ≤ 1048576) (s:ByteArray):Kp Tryz.prog w 130 #[A.v,.string s] (.int .i64 (nmI A.l s)):=by
 intro y0
 obtain ⟨p,cap,l⟩:=A
 simp only [Sl.v] at hl ⊢
 obtain ⟨n,hn⟩:∃ n,l.length = n:=⟨_,rfl⟩
 have hA:=hA.row.plus y0
 obtain ⟨W,hW⟩:∃ W,plus w y0 = W:=⟨_,rfl⟩
 rw [hW] at hA ⊢
 rw [hn] at hl
 clear hW
 obtain ⟨R,hR⟩:∃ R,nmI l s = R:=⟨_,rfl⟩
 have h0:firstI (fun x=>x.toList == s.toList) (l.drop 0) 0 = R:=hR
 rw [hn,hR]
 have hA':=Lib.hid hA
 have hn':=Lib.hid hn
 have hl':=Lib.hid hl
 have h0':=Lib.hid h0
 have hx:Hid (∃ z,W = plus W z):=Lib.hid ⟨_,(plus_self W).symm⟩
 clear hA hl hn hR h0
 go_enter Tryz.func130,Tryz.ntmps130
 go_wp2
 go_loopw [5] (fun iv wr=>∃ k:Nat,k ≤ n ∧ iv = .int .i64 (k:Int) ∧ Hid (firstI (fun x=>x.toList == s.toList) (l.drop k) k = R) ∧ wr = W) (fun iv _=>n - (intOf iv).toNat)
 case atStart=>exact ⟨0,Nat.zero_le _,rfl,h0',rfl⟩
 case round =>
  obtain ⟨k,hk,rfl,hs,rfl⟩:=hrel
  by_cases hlt:k < n
  ·obtain ⟨a,ha⟩:∃ s,l[k]? = some s:=⟨l[k]'(by rw [hn'.out];exact hlt),List.getElem?_eq_getElem _⟩
   obtain ⟨pa,hpa,hc⟩:=hA'.out k a ha
   have hs1:=(firstI_drop (fun x=>x.toList == s.toList) l k a ha).symm.trans hs.out
   have d0:=hc.c0 _ rfl
   simp only [Nat.mul_one] at d0
   have a6:=Lib.hid (wr_succ k n hlt hl'.out)
   clear hc ha hs
   rw [hpa]
   by_cases hZ:(a.toList == s.toList) = true
   ·have hs2:=Lib.hid (show (k:Int) = R from by rw [← hs1,if_pos hZ])
    clear hs1
    go_wp2
    go_ret
    exact ⟨congrArg (fun z=>Ending.returned (Value.int .i64 z)) hs2.out,hx.out⟩
   ·have hs2:=Lib.hid (show firstI (fun x=>x.toList == s.toList) (l.drop (k + 1)) (k + 1) = R by rw [← hs1,if_neg hZ])
    have hZ:(a.toList == s.toList) = false:=by simpa using hZ
    clear hs1
    go_wp2
    go_roundw
    case rel=>exact ⟨k + 1,hlt,congrArg (Value.int .i64) a6.out,hs2,(by first | rfl | trivial)⟩
    case measure=>exact step_less k n hlt a6.out
  ·obtain rfl:k = n:=by omega
   have hs2:=Lib.hid (show (-1:Int) = R from by
    rw [← hs.out,List.drop_of_length_le (by rw [hn'.out];exact Nat.le_refl _)];rfl)
   clear hs hlt hk
   go_wp2
   go_ret
   exact ⟨congrArg (fun z=>Ending.returned (Value.int .i64 z)) hs2.out,hx.out⟩
set_option maxRecDepth 100000 in
set_option maxHeartbeats 8000000 in
theorem r_Field (p:Pr) (w:World) (h:p.In w) (hz:p.sz ≤ 1048576) (i:Int) (s:ByteArray):Kp Tryz.prog w 126 #[.agg #[.slice p.headers.p p.headers.l.length p.headers.cap,.slice p.metas.p p.metas.l.length p.metas.cap,.slice p.states.p p.states.l.length p.states.cap,.slice p.actions.p p.actions.l.length p.actions.cap,.slice p.tables.p p.tables.l.length p.tables.cap,.slice p.control.p p.control.l.length p.control.cap,.slice p.emit.p p.emit.l.length p.emit.cap],.int .i64 i,.string s] (.int .i64 (fieldI p i s)):=by
 intro y0
 have hr:=h.headers.row.plus y0
 have hf:∀ x ∈ p.headers.l,Kp Tryz.prog w 151 #[x.fields.v,.string s] (.int .i64 (fdI x.fields.l s)):=fun x hx=>by
  have h1:=le_sum_of Hr.sz p.headers.l x hx
  have h2:p.sz = p.headers.size Hr.sz + p.metas.size Fd.sz + p.states.size Sa.sz + p.actions.size Ac.sz + p.tables.size Ta.sz + p.control.size St.sz + p.emit.size strSize:=rfl
  have h3:p.headers.size Hr.sz = (p.headers.l.map Hr.sz).sum:=rfl
  have h4:x.fields.size Fd.sz ≤ x.sz:=by unfold Hr.sz;omega
  exact r_fieldOf _ w x.fields (h.headers.kids x hx).fields (len_le Fd.sz Fd.sz_pos x.fields (by omega)) s
 have hf:=fun x hx=>(hf x hx).up y0
 obtain ⟨V,hV⟩:∃ V,plus w y0 = V:=⟨_,rfl⟩
 simp only [hV] at hf hr ⊢
 clear hV h hz
 have hf':=Lib.hid hf
 have hr':=Lib.hid hr
 clear hf hr
 obtain ⟨R,hR⟩:∃ R,fieldI p i s = R:=⟨_,rfl⟩
 rw [hR]
 have hR':=Lib.hid hR
 clear hR
 obtain ⟨A,hA⟩:∃ A,p.headers = A:=⟨_,rfl⟩
 have hA':=Lib.hid hA
 rw [hA]
 clear hA
 obtain ⟨ap,ac,al⟩:=A
 obtain ⟨n,hn⟩:∃ n,al.length = n:=⟨_,rfl⟩
 simp only [hn]
 have hn':=Lib.hid hn
 clear hn
 go_enter Tryz.func126,Tryz.ntmps126
 go_upto_region 1 with (fail)
 obtain ⟨W,yy,hW,⟨z,hz⟩,ca⟩:=box1n V _ 30
 rw [hW]
 have c0:=ca 0 _ rfl
 have hz2:=Lib.hid hz
 clear hW ca
 by_cases q1:i < 0
 ·have e:=Lib.hid (show (-1:Int) = R by rw [← hR'.out];unfold fieldI;rw [if_pos q1])
  clear hR' hf' hr' hz hA'
  go_wp2
  go_ret
  exact ⟨congrArg (fun z=>Ending.returned (Value.int .i64 z)) e.out,by rw [hz2.out,plus_plus];exact ⟨_,rfl⟩⟩
 obtain ⟨k,rfl⟩:∃ k:Nat,i = (k:Int):=⟨i.toNat,by omega⟩
 clear q1
 by_cases q2:k < n
 ·obtain ⟨x,hx⟩:∃ x,al[k]? = some x:=⟨al[k]'(by rw [hn'.out];exact q2),List.getElem?_eq_getElem _⟩
  have e:=Lib.hid (show fdI x.fields.l s = R by rw [← hR'.out];unfold fieldI;rw [if_neg (by omega),Int.toNat_natCast,hA'.out];simp only [hx])
  rw [hA'.out] at hr' hf'
  obtain ⟨pa,ha,hc⟩:=hr'.out k x hx
  simp only at ha
  subst ha
  have hc:=cells_up hz hc
  have qc:=Lib.hid (kp_at hz (hf'.out x (List.mem_of_getElem? hx)))
  have d0:=fun y=>(hc.plus y).c0 _ rfl
  have d1:=fun y=>(hc.plus y).cs 0 _ rfl
  clear hR' hf' hr' hz hA' hc hx hn'
  simp only [Hr.cells,Sl.v] at *
  go_wp2_with (first | (go_at_call 151;with_reducible refine (qc.out _).mono ?_;rintro r w' ⟨rfl,x,rfl⟩))
  go_ret
  exact ⟨congrArg (fun z=>Ending.returned (Value.int .i64 z)) e.out,by rw [hz2.out,plus_plus];exact ⟨_,rfl⟩⟩
 ·have e:=Lib.hid (show (-1:Int) = R by
   rw [← hR'.out];unfold fieldI;rw [if_neg (by omega),Int.toNat_natCast,hA'.out]
   simp only [List.getElem?_eq_none (show al.length ≤ k by rw [hn'.out];omega)])
  clear hR' hf' hr' hz hA'
  go_wp2
  go_ret
  exact ⟨congrArg (fun z=>Ending.returned (Value.int .i64 z)) e.out,by rw [hz2.out,plus_plus];exact ⟨_,rfl⟩⟩
set_option maxRecDepth 100000 in
set_option maxHeartbeats 8000000 in
theorem r_Param (p:Pr) (w:World) (h:p.In w) (hz:p.sz ≤ 1048576) (i:Int) (s:ByteArray):Kp Tryz.prog w 128 #[.agg #[.slice p.headers.p p.headers.l.length p.headers.cap,.slice p.metas.p p.metas.l.length p.metas.cap,.slice p.states.p p.states.l.length p.states.cap,.slice p.actions.p p.actions.l.length p.actions.cap,.slice p.tables.p p.tables.l.length p.tables.cap,.slice p.control.p p.control.l.length p.control.cap,.slice p.emit.p p.emit.l.length p.emit.cap],.int .i64 i,.string s] (.int .i64 (paramI p i s)):=by
 intro y0
 have hr:=h.actions.row.plus y0
 have hf:∀ x ∈ p.actions.l,Kp Tryz.prog w 151 #[x.params.v,.string s] (.int .i64 (fdI x.params.l s)):=fun x hx=>by
  have h1:=le_sum_of Ac.sz p.actions.l x hx
  have h2:p.sz = p.headers.size Hr.sz + p.metas.size Fd.sz + p.states.size Sa.sz + p.actions.size Ac.sz + p.tables.size Ta.sz + p.control.size St.sz + p.emit.size strSize:=rfl
  have h3:p.actions.size Ac.sz = (p.actions.l.map Ac.sz).sum:=rfl
  have h4:x.params.size Fd.sz ≤ x.sz:=by unfold Ac.sz;omega
  exact r_fieldOf _ w x.params (h.actions.kids x hx).params (len_le Fd.sz Fd.sz_pos x.params (by omega)) s
 have hf:=fun x hx=>(hf x hx).up y0
 obtain ⟨V,hV⟩:∃ V,plus w y0 = V:=⟨_,rfl⟩
 simp only [hV] at hf hr ⊢
 clear hV h hz
 have hf':=Lib.hid hf
 have hr':=Lib.hid hr
 clear hf hr
 obtain ⟨R,hR⟩:∃ R,paramI p i s = R:=⟨_,rfl⟩
 rw [hR]
 have hR':=Lib.hid hR
 clear hR
 obtain ⟨A,hA⟩:∃ A,p.actions = A:=⟨_,rfl⟩
 have hA':=Lib.hid hA
 rw [hA]
 clear hA
 obtain ⟨ap,ac,al⟩:=A
 obtain ⟨n,hn⟩:∃ n,al.length = n:=⟨_,rfl⟩
 simp only [hn]
 have hn':=Lib.hid hn
 clear hn
 go_enter Tryz.func128,Tryz.ntmps128
 go_upto_region 1 with (fail)
 obtain ⟨W,yy,hW,⟨z,hz⟩,ca⟩:=box1n V _ 30
 rw [hW]
 have c3:=ca 3 _ rfl
 have hz2:=Lib.hid hz
 clear hW ca
 by_cases q1:i < 0
 ·have e:=Lib.hid (show (-1:Int) = R by rw [← hR'.out];unfold paramI;rw [if_pos q1])
  clear hR' hf' hr' hz hA'
  go_wp2
  go_ret
  exact ⟨congrArg (fun z=>Ending.returned (Value.int .i64 z)) e.out,by rw [hz2.out,plus_plus];exact ⟨_,rfl⟩⟩
 obtain ⟨k,rfl⟩:∃ k:Nat,i = (k:Int):=⟨i.toNat,by omega⟩
 clear q1
 by_cases q2:k < n
 ·obtain ⟨x,hx⟩:∃ x,al[k]? = some x:=⟨al[k]'(by rw [hn'.out];exact q2),List.getElem?_eq_getElem _⟩
  have e:=Lib.hid (show fdI x.params.l s = R by rw [← hR'.out];unfold paramI;rw [if_neg (by omega),Int.toNat_natCast,hA'.out];simp only [hx])
  rw [hA'.out] at hr' hf'
  obtain ⟨pa,ha,hc⟩:=hr'.out k x hx
  simp only at ha
  subst ha
  have hc:=cells_up hz hc
  have qc:=Lib.hid (kp_at hz (hf'.out x (List.mem_of_getElem? hx)))
  have d0:=fun y=>(hc.plus y).c0 _ rfl
  have d1:=fun y=>(hc.plus y).cs 0 _ rfl
  have d2:=fun y=>(hc.plus y).cs 1 _ rfl
  clear hR' hf' hr' hz hA' hc hx hn'
  simp only [Ac.cells,Sl.v] at *
  go_wp2_with (first | (go_at_call 151;with_reducible refine (qc.out _).mono ?_;rintro r w' ⟨rfl,x,rfl⟩))
  go_ret
  exact ⟨congrArg (fun z=>Ending.returned (Value.int .i64 z)) e.out,by rw [hz2.out,plus_plus];exact ⟨_,rfl⟩⟩
 ·have e:=Lib.hid (show (-1:Int) = R by
   rw [← hR'.out];unfold paramI;rw [if_neg (by omega),Int.toNat_natCast,hA'.out]
   simp only [List.getElem?_eq_none (show al.length ≤ k by rw [hn'.out];omega)])
  clear hR' hf' hr' hz hA'
  go_wp2
  go_ret
  exact ⟨congrArg (fun z=>Ending.returned (Value.int .i64 z)) e.out,by rw [hz2.out,plus_plus];exact ⟨_,rfl⟩⟩
set_option maxRecDepth 100000 in
set_option maxHeartbeats 8000000 in
theorem r_Meta (p:Pr) (w:World) (h:p.In w) (hz:p.sz ≤ 1048576) (s:ByteArray):Kp Tryz.prog w 127 #[.agg #[.slice p.headers.p p.headers.l.length p.headers.cap,.slice p.metas.p p.metas.l.length p.metas.cap,.slice p.states.p p.states.l.length p.states.cap,.slice p.actions.p p.actions.l.length p.actions.cap,.slice p.tables.p p.tables.l.length p.tables.cap,.slice p.control.p p.control.l.length p.control.cap,.slice p.emit.p p.emit.l.length p.emit.cap],.string s] (.int .i64 (fdI p.metas.l s)):=by
 intro y0
 have q:=(r_fieldOf _ w p.metas h.metas (pr_len1 hz).2.1 s).up y0
 obtain ⟨W,hW⟩:∃ W,plus w y0 = W:=⟨_,rfl⟩
 rw [hW] at q ⊢
 clear hW
 simp only [Sl.v] at q
 have q1':=Lib.hid q.pure
 clear q h hz
 go_enter Tryz.func127,Tryz.ntmps127
 go_upto_region 1 with (fail)
 obtain ⟨U,yy,hU,⟨z,hz⟩,ca⟩:=box1n W _ 30
 rw [hU]
 have c0:=ca 1 _ rfl
 have hz2:=Lib.hid hz
 clear hU ca hz
 go_wp2_with (first | (go_at_call 151;rw [hz2.out,plus_plus];with_reducible refine (q1'.out _).mono ?_;rintro r w' ⟨rfl,x,rfl⟩))
 go_ret
 exact ⟨rfl,_,rfl⟩
set_option maxRecDepth 100000 in
set_option maxHeartbeats 8000000 in
theorem r_State (p:Pr) (w:World) (h:p.In w) (hz:p.sz ≤ 1048576) (s:ByteArray):Kp Tryz.prog w 125 #[.agg #[.slice p.headers.p p.headers.l.length p.headers.cap,.slice p.metas.p p.metas.l.length p.metas.cap,.slice p.states.p p.states.l.length p.states.cap,.slice p.actions.p p.actions.l.length p.actions.cap,.slice p.tables.p p.tables.l.length p.tables.cap,.slice p.control.p p.control.l.length p.control.cap,.slice p.emit.p p.emit.l.length p.emit.cap],.string s] (.tuple #[.int .i64 (stI p.states.l s).1,.bool (stI p.states.l s).2]):=by
 intro y0
 have hp:=h.plus y0
 obtain ⟨W,hW⟩:∃ W,plus w y0 = W:=⟨_,rfl⟩
 rw [hW] at hp ⊢
 clear hW
 have hl:p.states.l.length ≤ 1048576:=by obtain ⟨_,_,_,_,_,_⟩:=pr_len1 hz;assumption
 have hA:=fun z=>hp.states.row.plus z
 obtain ⟨n,hn⟩:∃ n,p.states.l.length = n:=⟨_,rfl⟩
 obtain ⟨R,hR⟩:∃ R,stI p.states.l s = R:=⟨_,rfl⟩
 rw [hn,hR]
 rw [hn] at hl
 have hA':=Lib.hid hA
 have hn':=Lib.hid hn
 have hl':=Lib.hid hl
 have hR':=Lib.hid hR
 clear hA hl hn hR h hz hp
 go_enter Tryz.func125,Tryz.ntmps125
 go_upto_region 1 with (fail)
 generalize hU:W.alloc _ = U
 have hx:Hid (∃ z,U = plus W z):=Lib.hid (hU ▸ plus_alloc1' W _)
 have hA':=Lib.hid (show RowAt U 5 _ _ _ from by obtain ⟨z,h⟩:=hx.out;rw [h];exact hA'.out z)
 have u0:=(congrArg (fun X:World=>X.cell? ⟨W.heap.size,2,none⟩) hU).symm.trans ((cell_new W _ _ _ 2 rfl).trans rfl)
 clear hU
 have hR:=hR'.out
 unfold stI at hR
 by_cases q1:(s.toList == [97,99,99,101,112,116]) = true
 ·rw [if_pos q1] at hR
  have hR2:=Lib.hid hR
  clear hR hR'
  go_wp2
  go_ret2
  exact ⟨by rw [← hR2.out] <;> rfl,hx.out⟩
 have q1:(s.toList == [97,99,99,101,112,116]) = false:=by simpa using q1
 rw [if_neg (by rw [q1];decide)] at hR
 by_cases q2:(s.toList == [114,101,106,101,99,116]) = true
 ·rw [if_pos q2] at hR
  have hR2:=Lib.hid hR
  clear hR hR'
  go_wp2
  go_ret2
  exact ⟨by rw [← hR2.out] <;> rfl,hx.out⟩
 have q2:(s.toList == [114,101,106,101,99,116]) = false:=by simpa using q2
 rw [if_neg (by rw [q2];decide)] at hR
 obtain ⟨I,hI⟩:∃ I,saI p.states.l s = I:=⟨_,rfl⟩
 rw [hI] at hR
 have h0:firstI (fun x=>x.name.toList == s.toList) (p.states.l.drop 0) 0 = I:=hI
 have h0':=Lib.hid h0
 have hR2:=Lib.hid hR
 clear hR hR' hI h0
 go_wp2
 go_loopw [6] (fun iv wr=>∃ k:Nat,k ≤ n ∧ iv = .int .i64 (k:Int) ∧ Hid (firstI (fun x=>x.name.toList == s.toList) (p.states.l.drop k) k = I) ∧ wr = U) (fun iv _=>n - (intOf iv).toNat)
 case atStart=>exact ⟨0,Nat.zero_le _,rfl,h0',rfl⟩
 case round =>
  obtain ⟨k,hk,rfl,hs,rfl⟩:=hrel
  by_cases hlt:k < n
  ·obtain ⟨a,ha⟩:∃ s,p.states.l[k]? = some s:=⟨p.states.l[k]'(by rw [hn'.out];exact hlt),List.getElem?_eq_getElem _⟩
   obtain ⟨pa,hpa,hc⟩:=hA'.out k a ha
   have hs1:=(firstI_drop (fun x=>x.name.toList == s.toList) p.states.l k a ha).symm.trans hs.out
   have d0:=hc.c0 _ rfl
   have a6:=Lib.hid (wr_succ k n hlt hl'.out)
   clear hc ha hs
   rw [hpa]
   by_cases hZ:(a.name.toList == s.toList) = true
   ·have hs2:=Lib.hid (show ((k:Int),true) = R from by
     rw [← hR2.out,← hs1,if_pos hZ,if_neg (by simp)])
    clear hs1
    go_wp2
    go_ret2
    exact ⟨by first | (rw [← hs2.out];done) | (rw [← hs2.out];rfl),hx.out⟩
   ·have hs2:=Lib.hid (show firstI (fun x=>x.name.toList == s.toList) (p.states.l.drop (k + 1)) (k + 1) = I by rw [← hs1,if_neg hZ])
    have hZ:(a.name.toList == s.toList) = false:=by simpa using hZ
    clear hs1
    go_wp2
    go_roundw
    case rel=>exact ⟨k + 1,hlt,congrArg (Value.int .i64) a6.out,hs2,(by first | rfl | trivial)⟩
    case measure=>exact step_less k n hlt a6.out
  ·obtain rfl:k = n:=by omega
   have hs2:=Lib.hid (show ((0:Int),false) = R from by
    have h1:(-1:Int) = I:=by rw [← hs.out,List.drop_of_length_le (by rw [hn'.out];exact Nat.le_refl _)];rfl
    rw [← hR2.out,← h1,if_pos (by decide)])
   clear hs hlt hk
   go_wp2
   go_ret2
   exact ⟨by first | (rw [← hs2.out];done) | (rw [← hs2.out];rfl),hx.out⟩
set_option maxRecDepth 100000 in
set_option maxHeartbeats 8000000 in
theorem r_Bits (nm:ByteArray) (A:Sl Fd) (w:World) (K:Fd → Prop) (hA:A.In w 2 Fd.cells K) (hl:A.l.length ≤ 1048576):Kp Tryz.prog w 132 #[.agg #[.string nm,A.v]] (.int .i64 (bitsI A.l)):=by
 intro y0
 have hr:=hA.row.plus y0
 obtain ⟨V,hV⟩:∃ V,plus w y0 = V:=⟨_,rfl⟩
 rw [hV] at hr ⊢
 clear hV hA
 obtain ⟨ap,ac,al⟩:=A
 simp only [Sl.v] at hr hl ⊢
 obtain ⟨n,hn⟩:∃ n,al.length = n:=⟨_,rfl⟩
 rw [hn] at hl ⊢
 have hn':=Lib.hid hn
 have hl':=Lib.hid hl
 have hr':=Lib.hid hr
 clear hn hl hr
 go_enter Tryz.func132,Tryz.ntmps132
 go_upto_region 1 with (fail)
 generalize hU:V.alloc _ = U
 have hx:Hid (∃ z,U = plus V z):=Lib.hid (hU ▸ plus_alloc1' V _)
 have hr2:=Lib.hid (show RowAt U 2 _ _ _ from by obtain ⟨z,h⟩:=hx.out;rw [h];exact hr'.out.plus z)
 have u0:=(congrArg (fun X:World=>X.cell? ⟨V.heap.size,1,none⟩) hU).symm.trans ((cell_new V _ _ _ 1 rfl).trans rfl)
 clear hU hr'
 go_wp2
 go_loopw [3,4] (fun sv iv wr=>∃ k:Nat,k ≤ n ∧ iv = .int .i64 (k:Int) ∧ sv = .int .i64 (bitsI (al.take k)) ∧ wr = U) (fun _ iv _=>n - (intOf iv).toNat)
 case atStart=>exact ⟨0,Nat.zero_le _,rfl,rfl,rfl⟩
 case round =>
  obtain ⟨k,hk,rfl,rfl,rfl⟩:=hrel
  by_cases hlt:k < n
  ·obtain ⟨a,ha⟩:∃ s,al[k]? = some s:=⟨al[k]'(by rw [hn'.out];exact hlt),List.getElem?_eq_getElem _⟩
   obtain ⟨pa,hpa,hc⟩:=hr2.out k a ha
   have hs:=Lib.hid (bitsI_take al k a ha)
   have d1:=hc.cs 0 _ rfl
   have a6:=Lib.hid (wr_succ k n hlt hl'.out)
   obtain ⟨T,hT⟩:∃ T,bitsI (al.take k) = T:=⟨_,rfl⟩
   rw [hT,hpa]
   have hT':=Lib.hid hT
   clear hc ha hT
   go_wp2
   go_roundw
   case rel=>exact ⟨k + 1,hlt,congrArg (Value.int .i64) a6.out,congrArg (Value.int .i64) (by rw [hs.out,hT'.out]),(by first | rfl | trivial)⟩
   case measure=>exact step_less k n hlt a6.out
  ·obtain rfl:k = n:=by omega
   have e:=Lib.hid (show bitsI (al.take k) = bitsI al by rw [List.take_of_length_le (by rw [hn'.out];exact Nat.le_refl _)])
   clear hlt hk
   go_wp2
   go_ret
   exact ⟨congrArg (fun z=>Ending.returned (Value.int .i64 z)) e.out,hx.out⟩
end Go.Proofs.YtlmhldcebllckaaGreat
