/-
  WHAT IS PROVED HERE: a part of the proof (made narrower and merged by program; the parts: Fc Fd).
-/
import Derived.Test.YtobhijbncchpiaaGreatM3
namespace Go.Proofs.YtobhijbncchpiaaGreat
open Go.RowKit
set_option maxHeartbeats 8000000 in
theorem each_string (may:ByteArray→Bool) (g:FuncId) (first caps:Array Value) (K:ByteArray→Prop) (w:World) (A:Sl ByteArray) (lo hi:Int) (hA:A.In w 1 strCells K) (hl:A.l.length≤1048576)
  (hent:∀ args w,(callFunc g args).run Tryz.prog w=.ok (.enter g args) w)
  (hf:∀ x ∈ A.l,Kp Tryz.prog w g (first.push (.string x)++caps) (.bool (may x))) :
  Kp Tryz.prog w 64 #[A.v,.int .i64 lo,.int .i64 hi,.func (.func g) first caps] (.bool (eachB lo hi may A.l)):=by
 intro y0
 obtain⟨p,cap,l⟩:=A
 simp only [Sl.v] at hl hf ⊢
 obtain⟨n,hn⟩:∃ n,l.length=n:=⟨_,rfl⟩
 have hA:=hA.row.plus y0
 have hf:=fun x hx=>((hf x hx).up y0).pure
 obtain⟨W,hW⟩:∃ W,plus w y0=W:=⟨_,rfl⟩
 rw [hW] at hA ⊢
 simp only [hW] at hf
 rw [hn] at hl
 clear hW
 by_cases h1:(n:Int) < lo
 case pos =>
  have hF:=Lib.hid (show false=eachB lo hi may l by unfold eachB;rw [hn,decide_eq_false (show ¬ lo≤(n:Int) by omega)];rfl)
  rw [hn]
  clear hA hl hn hf
  go_enter Tryz.func64,Tryz.ntmps64
  go_wp2
  go_ret
  exact⟨rb hF.out,_,(plus_self W).symm⟩
 by_cases h2:hi < (n:Int)
 case pos =>
  have hF:=Lib.hid (show false=eachB lo hi may l by unfold eachB;rw [hn,decide_eq_false (show ¬ (n:Int)≤hi by omega)];simp)
  rw [hn]
  clear hA hl hn hf
  go_enter Tryz.func64,Tryz.ntmps64
  go_wp2
  go_ret
  exact⟨rb hF.out,_,(plus_self W).symm⟩
 obtain⟨R,hR⟩:∃ R,eachB lo hi may l=R:=⟨_,rfl⟩
 have h0:(l.drop 0).all may=R:=by rw [← hR];unfold eachB;rw [hn,decide_eq_true (show lo≤(n:Int) by omega),decide_eq_true (show (n:Int)≤hi by omega)];rfl
 rw [hn,hR]
 have hA':=Lib.hid hA
 have hn':=Lib.hid hn
 have hl':=Lib.hid hl
 have h0':=Lib.hid h0
 have hf':=Lib.hid hf
 clear hA hl hn hR h0 hf
 go_enter Tryz.func64,Tryz.ntmps64
 go_wp2
 go_loopw [10,23] (fun _ iv wr=>∃ k:Nat,k≤n∧iv=.int .i64 (k:Int)∧Hid ((l.drop k).all may=R)∧∃ y,wr=plus W y) (fun _ iv _=>n - (intOf iv).toNat)
 case atStart=>exact⟨0,Nat.zero_le _,rfl,h0',⟨#[],W.drawn⟩,(plus_self W).symm⟩
 case round =>
  obtain⟨k,hk,rfl,hs,y,rfl⟩:=hrel
  by_cases hlt:k < n
  ·obtain⟨a,ha⟩:∃ s,l[k]?=some s:=⟨l[k]'(by rw [hn'.out];exact hlt),List.getElem?_eq_getElem _⟩
   obtain⟨pa,rfl,hc⟩:=hA'.out k a ha
   have q1:=hf'.out a (List.mem_of_getElem? ha)
   have hs1:(may a && (l.drop (k+1)).all may)=R:=by rw [← all_drop may l k a ha];exact hs.out
   obtain⟨Z,hZ⟩:∃ Z,may a=Z:=⟨_,rfl⟩
   rw [hZ] at q1 hs1
   have d0:=fun y=>(hc.plus y).c0 _ rfl
   simp only [Nat.mul_one] at d0
   have q1':=Lib.hid q1
   have a6:=Lib.hid (wr_succ k n hlt hl'.out)
   clear q1 hZ hc ha hs 
   cases Z with
   | true =>
    have hs2:=Lib.hid (show (l.drop (k+1)).all may=R by rw [← hs1,Bool.true_and])
    clear hs1
    go_wp2_with (refine (q1'.out _).mono ?_;rintro e w' ⟨rfl,x,rfl⟩)
    go_roundw
    case rel=>exact⟨k+1,hlt,congrArg (Value.int .i64) a6.out,hs2,x,rfl⟩
    case measure=>exact step_less k n hlt a6.out
   | false =>
    have hs2:=Lib.hid (show false=R by rw [← hs1,Bool.false_and])
    clear hs1
    go_wp2_with (refine (q1'.out _).mono ?_;rintro e w' ⟨rfl,x,rfl⟩)
    go_ret
    exact⟨rb hs2.out,x,rfl⟩
  ·obtain rfl:k=n:=by omega
   have hs2:=Lib.hid (show true=R by
    rw [← hs.out,List.drop_of_length_le (by rw [hn'.out];exact Nat.le_refl _)];rfl)
   clear hs hlt hk
   go_wp2
   go_ret
   exact⟨rb hs2.out,y,rfl⟩
set_option maxHeartbeats 8000000 in
theorem each_Field {α:Type} (cells:α→List Value) (hC:∀ x,shp_Field (cells x)) (may:α→Bool) (g:FuncId) (first caps:Array Value) (K:α→Prop) (w:World) (A:Sl α) (lo hi:Int) (hA:A.In w 2 cells K) (hl:A.l.length≤1048576)
  (hent:∀ args w,(callFunc g args).run Tryz.prog w=.ok (.enter g args) w)
  (hf:∀ x ∈ A.l,Kp Tryz.prog w g (first.push (.agg (cells x).toArray)++caps) (.bool (may x))) :
  Kp Tryz.prog w 55 #[A.v,.int .i64 lo,.int .i64 hi,.func (.func g) first caps] (.bool (eachB lo hi may A.l)):=by
 intro y0
 obtain⟨p,cap,l⟩:=A
 simp only [Sl.v] at hl hf ⊢
 obtain⟨n,hn⟩:∃ n,l.length=n:=⟨_,rfl⟩
 have hA:=hA.row.plus y0
 have hf:=fun x hx=>((hf x hx).up y0).pure
 obtain⟨W,hW⟩:∃ W,plus w y0=W:=⟨_,rfl⟩
 rw [hW] at hA ⊢
 simp only [hW] at hf
 rw [hn] at hl
 clear hW
 by_cases h1:(n:Int) < lo
 case pos =>
  have hF:=Lib.hid (show false=eachB lo hi may l by unfold eachB;rw [hn,decide_eq_false (show ¬ lo≤(n:Int) by omega)];rfl)
  rw [hn]
  clear hA hl hn hf
  go_enter Tryz.func55,Tryz.ntmps55
  go_wp2
  go_ret
  exact⟨rb hF.out,_,(plus_self W).symm⟩
 by_cases h2:hi < (n:Int)
 case pos =>
  have hF:=Lib.hid (show false=eachB lo hi may l by unfold eachB;rw [hn,decide_eq_false (show ¬ (n:Int)≤hi by omega)];simp)
  rw [hn]
  clear hA hl hn hf
  go_enter Tryz.func55,Tryz.ntmps55
  go_wp2
  go_ret
  exact⟨rb hF.out,_,(plus_self W).symm⟩
 obtain⟨R,hR⟩:∃ R,eachB lo hi may l=R:=⟨_,rfl⟩
 have h0:(l.drop 0).all may=R:=by rw [← hR];unfold eachB;rw [hn,decide_eq_true (show lo≤(n:Int) by omega),decide_eq_true (show (n:Int)≤hi by omega)];rfl
 rw [hn,hR]
 have hA':=Lib.hid hA
 have hn':=Lib.hid hn
 have hl':=Lib.hid hl
 have h0':=Lib.hid h0
 have hf':=Lib.hid hf
 have hC':=Lib.hid hC
 clear hA hl hn hR h0 hf hC
 go_enter Tryz.func55,Tryz.ntmps55
 go_wp2
 go_loopw [10,23] (fun _ iv wr=>∃ k:Nat,k≤n∧iv=.int .i64 (k:Int)∧Hid ((l.drop k).all may=R)∧∃ y,wr=plus W y) (fun _ iv _=>n - (intOf iv).toNat)
 case atStart=>exact⟨0,Nat.zero_le _,rfl,h0',⟨#[],W.drawn⟩,(plus_self W).symm⟩
 case round =>
  obtain⟨k,hk,rfl,hs,y,rfl⟩:=hrel
  by_cases hlt:k < n
  ·obtain⟨a,ha⟩:∃ s,l[k]?=some s:=⟨l[k]'(by rw [hn'.out];exact hlt),List.getElem?_eq_getElem _⟩
   obtain⟨pa,rfl,hc⟩:=hA'.out k a ha
   have q1:=hf'.out a (List.mem_of_getElem? ha)
   have hs1:(may a && (l.drop (k+1)).all may)=R:=by rw [← all_drop may l k a ha];exact hs.out
   obtain⟨Z,hZ⟩:∃ Z,may a=Z:=⟨_,rfl⟩
   rw [hZ] at q1 hs1
   obtain⟨c0,c1,ea⟩:=hC'.out a
   rw [ea] at q1
   have d0:=fun y=>(hc.plus y).c0 _ (by rw [ea];rfl)
   have d1:=fun y=>(hc.plus y).cs 0 _ (by rw [ea];rfl)
   have q1':=Lib.hid q1
   have a6:=Lib.hid (wr_succ k n hlt hl'.out)
   clear q1 hZ hc ha hs ea
   cases Z with
   | true =>
    have hs2:=Lib.hid (show (l.drop (k+1)).all may=R by rw [← hs1,Bool.true_and])
    clear hs1
    go_wp2_with (refine pure_call1 q1'.out ?_;rintro e w' ⟨rfl,x,rfl⟩)
    go_roundw
    case rel=>exact⟨k+1,hlt,congrArg (Value.int .i64) a6.out,hs2,x,rfl⟩
    case measure=>exact step_less k n hlt a6.out
   | false =>
    have hs2:=Lib.hid (show false=R by rw [← hs1,Bool.false_and])
    clear hs1
    go_wp2_with (refine pure_call1 q1'.out ?_;rintro e w' ⟨rfl,x,rfl⟩)
    go_ret
    exact⟨rb hs2.out,x,rfl⟩
  ·obtain rfl:k=n:=by omega
   have hs2:=Lib.hid (show true=R by
    rw [← hs.out,List.drop_of_length_le (by rw [hn'.out];exact Nat.le_refl _)];rfl)
   clear hs hlt hk
   go_wp2
   go_ret
   exact⟨rb hs2.out,y,rfl⟩
set_option maxHeartbeats 8000000 in
theorem each_Expr {α:Type} (cells:α→List Value) (hC:∀ x,shp_Expr (cells x)) (may:α→Bool) (g:FuncId) (first caps:Array Value) (K:α→Prop) (w:World) (A:Sl α) (lo hi:Int) (hA:A.In w 9 cells K) (hl:A.l.length≤1048576)
  (hent:∀ args w,(callFunc g args).run Tryz.prog w=.ok (.enter g args) w)
  (hf:∀ x ∈ A.l,Kp Tryz.prog w g (first.push (.agg (cells x).toArray)++caps) (.bool (may x))) :
  Kp Tryz.prog w 188 #[A.v,.int .i64 lo,.int .i64 hi,.func (.func g) first caps] (.bool (eachB lo hi may A.l)):=by
 intro y0
 obtain⟨p,cap,l⟩:=A
 simp only [Sl.v] at hl hf ⊢
 obtain⟨n,hn⟩:∃ n,l.length=n:=⟨_,rfl⟩
 have hA:=hA.row.plus y0
 have hf:=fun x hx=>((hf x hx).up y0).pure
 obtain⟨W,hW⟩:∃ W,plus w y0=W:=⟨_,rfl⟩
 rw [hW] at hA ⊢
 simp only [hW] at hf
 rw [hn] at hl
 clear hW
 by_cases h1:(n:Int) < lo
 case pos =>
  have hF:=Lib.hid (show false=eachB lo hi may l by unfold eachB;rw [hn,decide_eq_false (show ¬ lo≤(n:Int) by omega)];rfl)
  rw [hn]
  clear hA hl hn hf
  go_enter Tryz.func188,Tryz.ntmps188
  go_wp2
  go_ret
  exact⟨rb hF.out,_,(plus_self W).symm⟩
 by_cases h2:hi < (n:Int)
 case pos =>
  have hF:=Lib.hid (show false=eachB lo hi may l by unfold eachB;rw [hn,decide_eq_false (show ¬ (n:Int)≤hi by omega)];simp)
  rw [hn]
  clear hA hl hn hf
  go_enter Tryz.func188,Tryz.ntmps188
  go_wp2
  go_ret
  exact⟨rb hF.out,_,(plus_self W).symm⟩
 obtain⟨R,hR⟩:∃ R,eachB lo hi may l=R:=⟨_,rfl⟩
 have h0:(l.drop 0).all may=R:=by rw [← hR];unfold eachB;rw [hn,decide_eq_true (show lo≤(n:Int) by omega),decide_eq_true (show (n:Int)≤hi by omega)];rfl
 rw [hn,hR]
 have hA':=Lib.hid hA
 have hn':=Lib.hid hn
 have hl':=Lib.hid hl
 have h0':=Lib.hid h0
 have hf':=Lib.hid hf
 have hC':=Lib.hid hC
 clear hA hl hn hR h0 hf hC
 go_enter Tryz.func188,Tryz.ntmps188
 go_wp2
 go_loopw [10,23] (fun _ iv wr=>∃ k:Nat,k≤n∧iv=.int .i64 (k:Int)∧Hid ((l.drop k).all may=R)∧∃ y,wr=plus W y) (fun _ iv _=>n - (intOf iv).toNat)
 case atStart=>exact⟨0,Nat.zero_le _,rfl,h0',⟨#[],W.drawn⟩,(plus_self W).symm⟩
 case round =>
  obtain⟨k,hk,rfl,hs,y,rfl⟩:=hrel
  by_cases hlt:k < n
  ·obtain⟨a,ha⟩:∃ s,l[k]?=some s:=⟨l[k]'(by rw [hn'.out];exact hlt),List.getElem?_eq_getElem _⟩
   obtain⟨pa,rfl,hc⟩:=hA'.out k a ha
   have q1:=hf'.out a (List.mem_of_getElem? ha)
   have hs1:(may a && (l.drop (k+1)).all may)=R:=by rw [← all_drop may l k a ha];exact hs.out
   obtain⟨Z,hZ⟩:∃ Z,may a=Z:=⟨_,rfl⟩
   rw [hZ] at q1 hs1
   obtain⟨c0,c1,c2,c3,c4,c5,c6,c7,c8p,c8n,c8c,ea⟩:=hC'.out a
   rw [ea] at q1
   have d0:=fun y=>(hc.plus y).c0 _ (by rw [ea];rfl)
   have d1:=fun y=>(hc.plus y).cs 0 _ (by rw [ea];rfl)
   have d2:=fun y=>(hc.plus y).cs 1 _ (by rw [ea];rfl)
   have d3:=fun y=>(hc.plus y).cs 2 _ (by rw [ea];rfl)
   have d4:=fun y=>(hc.plus y).cs 3 _ (by rw [ea];rfl)
   have d5:=fun y=>(hc.plus y).cs 4 _ (by rw [ea];rfl)
   have d6:=fun y=>(hc.plus y).cs 5 _ (by rw [ea];rfl)
   have d7:=fun y=>(hc.plus y).cs 6 _ (by rw [ea];rfl)
   have d8:=fun y=>(hc.plus y).cs 7 _ (by rw [ea];rfl)
   have q1':=Lib.hid q1
   have a6:=Lib.hid (wr_succ k n hlt hl'.out)
   clear q1 hZ hc ha hs ea
   cases Z with
   | true =>
    have hs2:=Lib.hid (show (l.drop (k+1)).all may=R by rw [← hs1,Bool.true_and])
    clear hs1
    go_wp2_with (refine pure_call1 q1'.out ?_;rintro e w' ⟨rfl,x,rfl⟩)
    go_roundw
    case rel=>exact⟨k+1,hlt,congrArg (Value.int .i64) a6.out,hs2,x,rfl⟩
    case measure=>exact step_less k n hlt a6.out
   | false =>
    have hs2:=Lib.hid (show false=R by rw [← hs1,Bool.false_and])
    clear hs1
    go_wp2_with (refine pure_call1 q1'.out ?_;rintro e w' ⟨rfl,x,rfl⟩)
    go_ret
    exact⟨rb hs2.out,x,rfl⟩
  ·obtain rfl:k=n:=by omega
   have hs2:=Lib.hid (show true=R by
    rw [← hs.out,List.drop_of_length_le (by rw [hn'.out];exact Nat.le_refl _)];rfl)
   clear hs hlt hk
   go_wp2
   go_ret
   exact⟨rb hs2.out,y,rfl⟩
set_option maxHeartbeats 8000000 in
theorem each_Header {α:Type} (cells:α→List Value) (hC:∀ x,shp_Header (cells x)) (may:α→Bool) (g:FuncId) (first caps:Array Value) (K:α→Prop) (w:World) (A:Sl α) (lo hi:Int) (hA:A.In w 2 cells K) (hl:A.l.length≤1048576)
  (hent:∀ args w,(callFunc g args).run Tryz.prog w=.ok (.enter g args) w)
  (hf:∀ x ∈ A.l,Kp Tryz.prog w g (first.push (.agg (cells x).toArray)++caps) (.bool (may x))) :
  Kp Tryz.prog w 53 #[A.v,.int .i64 lo,.int .i64 hi,.func (.func g) first caps] (.bool (eachB lo hi may A.l)):=by
 intro y0
 obtain⟨p,cap,l⟩:=A
 simp only [Sl.v] at hl hf ⊢
 obtain⟨n,hn⟩:∃ n,l.length=n:=⟨_,rfl⟩
 have hA:=hA.row.plus y0
 have hf:=fun x hx=>((hf x hx).up y0).pure
 obtain⟨W,hW⟩:∃ W,plus w y0=W:=⟨_,rfl⟩
 rw [hW] at hA ⊢
 simp only [hW] at hf
 rw [hn] at hl
 clear hW
 by_cases h1:(n:Int) < lo
 case pos =>
  have hF:=Lib.hid (show false=eachB lo hi may l by unfold eachB;rw [hn,decide_eq_false (show ¬ lo≤(n:Int) by omega)];rfl)
  rw [hn]
  clear hA hl hn hf
  go_enter Tryz.func53,Tryz.ntmps53
  go_wp2
  go_ret
  exact⟨rb hF.out,_,(plus_self W).symm⟩
 by_cases h2:hi < (n:Int)
 case pos =>
  have hF:=Lib.hid (show false=eachB lo hi may l by unfold eachB;rw [hn,decide_eq_false (show ¬ (n:Int)≤hi by omega)];simp)
  rw [hn]
  clear hA hl hn hf
  go_enter Tryz.func53,Tryz.ntmps53
  go_wp2
  go_ret
  exact⟨rb hF.out,_,(plus_self W).symm⟩
 obtain⟨R,hR⟩:∃ R,eachB lo hi may l=R:=⟨_,rfl⟩
 have h0:(l.drop 0).all may=R:=by rw [← hR];unfold eachB;rw [hn,decide_eq_true (show lo≤(n:Int) by omega),decide_eq_true (show (n:Int)≤hi by omega)];rfl
 rw [hn,hR]
 have hA':=Lib.hid hA
 have hn':=Lib.hid hn
 have hl':=Lib.hid hl
 have h0':=Lib.hid h0
 have hf':=Lib.hid hf
 have hC':=Lib.hid hC
 clear hA hl hn hR h0 hf hC
 go_enter Tryz.func53,Tryz.ntmps53
 go_wp2
 go_loopw [10,23] (fun _ iv wr=>∃ k:Nat,k≤n∧iv=.int .i64 (k:Int)∧Hid ((l.drop k).all may=R)∧∃ y,wr=plus W y) (fun _ iv _=>n - (intOf iv).toNat)
 case atStart=>exact⟨0,Nat.zero_le _,rfl,h0',⟨#[],W.drawn⟩,(plus_self W).symm⟩
 case round =>
  obtain⟨k,hk,rfl,hs,y,rfl⟩:=hrel
  by_cases hlt:k < n
  ·obtain⟨a,ha⟩:∃ s,l[k]?=some s:=⟨l[k]'(by rw [hn'.out];exact hlt),List.getElem?_eq_getElem _⟩
   obtain⟨pa,rfl,hc⟩:=hA'.out k a ha
   have q1:=hf'.out a (List.mem_of_getElem? ha)
   have hs1:(may a && (l.drop (k+1)).all may)=R:=by rw [← all_drop may l k a ha];exact hs.out
   obtain⟨Z,hZ⟩:∃ Z,may a=Z:=⟨_,rfl⟩
   rw [hZ] at q1 hs1
   obtain⟨c0,c1p,c1n,c1c,ea⟩:=hC'.out a
   rw [ea] at q1
   have d0:=fun y=>(hc.plus y).c0 _ (by rw [ea];rfl)
   have d1:=fun y=>(hc.plus y).cs 0 _ (by rw [ea];rfl)
   have q1':=Lib.hid q1
   have a6:=Lib.hid (wr_succ k n hlt hl'.out)
   clear q1 hZ hc ha hs ea
   cases Z with
   | true =>
    have hs2:=Lib.hid (show (l.drop (k+1)).all may=R by rw [← hs1,Bool.true_and])
    clear hs1
    go_wp2_with (refine pure_call1 q1'.out ?_;rintro e w' ⟨rfl,x,rfl⟩)
    go_roundw
    case rel=>exact⟨k+1,hlt,congrArg (Value.int .i64) a6.out,hs2,x,rfl⟩
    case measure=>exact step_less k n hlt a6.out
   | false =>
    have hs2:=Lib.hid (show false=R by rw [← hs1,Bool.false_and])
    clear hs1
    go_wp2_with (refine pure_call1 q1'.out ?_;rintro e w' ⟨rfl,x,rfl⟩)
    go_ret
    exact⟨rb hs2.out,x,rfl⟩
  ·obtain rfl:k=n:=by omega
   have hs2:=Lib.hid (show true=R by
    rw [← hs.out,List.drop_of_length_le (by rw [hn'.out];exact Nat.le_refl _)];rfl)
   clear hs hlt hk
   go_wp2
   go_ret
   exact⟨rb hs2.out,y,rfl⟩
set_option maxHeartbeats 8000000 in
theorem each_State {α:Type} (cells:α→List Value) (hC:∀ x,shp_State (cells x)) (may:α→Bool) (g:FuncId) (first caps:Array Value) (K:α→Prop) (w:World) (A:Sl α) (lo hi:Int) (hA:A.In w 5 cells K) (hl:A.l.length≤1048576)
  (hent:∀ args w,(callFunc g args).run Tryz.prog w=.ok (.enter g args) w)
  (hf:∀ x ∈ A.l,Kp Tryz.prog w g (first.push (.agg (cells x).toArray)++caps) (.bool (may x))) :
  Kp Tryz.prog w 57 #[A.v,.int .i64 lo,.int .i64 hi,.func (.func g) first caps] (.bool (eachB lo hi may A.l)):=by
 intro y0
 obtain⟨p,cap,l⟩:=A
 simp only [Sl.v] at hl hf ⊢
 obtain⟨n,hn⟩:∃ n,l.length=n:=⟨_,rfl⟩
 have hA:=hA.row.plus y0
 have hf:=fun x hx=>((hf x hx).up y0).pure
 obtain⟨W,hW⟩:∃ W,plus w y0=W:=⟨_,rfl⟩
 rw [hW] at hA ⊢
 simp only [hW] at hf
 rw [hn] at hl
 clear hW
 by_cases h1:(n:Int) < lo
 case pos =>
  have hF:=Lib.hid (show false=eachB lo hi may l by unfold eachB;rw [hn,decide_eq_false (show ¬ lo≤(n:Int) by omega)];rfl)
  rw [hn]
  clear hA hl hn hf
  go_enter Tryz.func57,Tryz.ntmps57
  go_wp2
  go_ret
  exact⟨rb hF.out,_,(plus_self W).symm⟩
 by_cases h2:hi < (n:Int)
 case pos =>
  have hF:=Lib.hid (show false=eachB lo hi may l by unfold eachB;rw [hn,decide_eq_false (show ¬ (n:Int)≤hi by omega)];simp)
  rw [hn]
  clear hA hl hn hf
  go_enter Tryz.func57,Tryz.ntmps57
  go_wp2
  go_ret
  exact⟨rb hF.out,_,(plus_self W).symm⟩
 obtain⟨R,hR⟩:∃ R,eachB lo hi may l=R:=⟨_,rfl⟩
 have h0:(l.drop 0).all may=R:=by rw [← hR];unfold eachB;rw [hn,decide_eq_true (show lo≤(n:Int) by omega),decide_eq_true (show (n:Int)≤hi by omega)];rfl
 rw [hn,hR]
 have hA':=Lib.hid hA
 have hn':=Lib.hid hn
 have hl':=Lib.hid hl
 have h0':=Lib.hid h0
 have hf':=Lib.hid hf
 have hC':=Lib.hid hC
 clear hA hl hn hR h0 hf hC
 go_enter Tryz.func57,Tryz.ntmps57
 go_wp2
 go_loopw [10,23] (fun _ iv wr=>∃ k:Nat,k≤n∧iv=.int .i64 (k:Int)∧Hid ((l.drop k).all may=R)∧∃ y,wr=plus W y) (fun _ iv _=>n - (intOf iv).toNat)
 case atStart=>exact⟨0,Nat.zero_le _,rfl,h0',⟨#[],W.drawn⟩,(plus_self W).symm⟩
 case round =>
  obtain⟨k,hk,rfl,hs,y,rfl⟩:=hrel
  by_cases hlt:k < n
  ·obtain⟨a,ha⟩:∃ s,l[k]?=some s:=⟨l[k]'(by rw [hn'.out];exact hlt),List.getElem?_eq_getElem _⟩
   obtain⟨pa,rfl,hc⟩:=hA'.out k a ha
   have q1:=hf'.out a (List.mem_of_getElem? ha)
   have hs1:(may a && (l.drop (k+1)).all may)=R:=by rw [← all_drop may l k a ha];exact hs.out
   obtain⟨Z,hZ⟩:∃ Z,may a=Z:=⟨_,rfl⟩
   rw [hZ] at q1 hs1
   obtain⟨c0,c1p,c1n,c1c,c2,c3p,c3n,c3c,c4p,c4n,c4c,ea⟩:=hC'.out a
   rw [ea] at q1
   have d0:=fun y=>(hc.plus y).c0 _ (by rw [ea];rfl)
   have d1:=fun y=>(hc.plus y).cs 0 _ (by rw [ea];rfl)
   have d2:=fun y=>(hc.plus y).cs 1 _ (by rw [ea];rfl)
   have d3:=fun y=>(hc.plus y).cs 2 _ (by rw [ea];rfl)
   have d4:=fun y=>(hc.plus y).cs 3 _ (by rw [ea];rfl)
   have q1':=Lib.hid q1
   have a6:=Lib.hid (wr_succ k n hlt hl'.out)
   clear q1 hZ hc ha hs ea
   cases Z with
   | true =>
    have hs2:=Lib.hid (show (l.drop (k+1)).all may=R by rw [← hs1,Bool.true_and])
    clear hs1
    go_wp2_with (refine pure_call1 q1'.out ?_;rintro e w' ⟨rfl,x,rfl⟩)
    go_roundw
    case rel=>exact⟨k+1,hlt,congrArg (Value.int .i64) a6.out,hs2,x,rfl⟩
    case measure=>exact step_less k n hlt a6.out
   | false =>
    have hs2:=Lib.hid (show false=R by rw [← hs1,Bool.false_and])
    clear hs1
    go_wp2_with (refine pure_call1 q1'.out ?_;rintro e w' ⟨rfl,x,rfl⟩)
    go_ret
    exact⟨rb hs2.out,x,rfl⟩
  ·obtain rfl:k=n:=by omega
   have hs2:=Lib.hid (show true=R by
    rw [← hs.out,List.drop_of_length_le (by rw [hn'.out];exact Nat.le_refl _)];rfl)
   clear hs hlt hk
   go_wp2
   go_ret
   exact⟨rb hs2.out,y,rfl⟩
set_option maxHeartbeats 8000000 in
theorem each_Action {α:Type} (cells:α→List Value) (hC:∀ x,shp_Action (cells x)) (may:α→Bool) (g:FuncId) (first caps:Array Value) (K:α→Prop) (w:World) (A:Sl α) (lo hi:Int) (hA:A.In w 3 cells K) (hl:A.l.length≤1048576)
  (hent:∀ args w,(callFunc g args).run Tryz.prog w=.ok (.enter g args) w)
  (hf:∀ x ∈ A.l,Kp Tryz.prog w g (first.push (.agg (cells x).toArray)++caps) (.bool (may x))) :
  Kp Tryz.prog w 59 #[A.v,.int .i64 lo,.int .i64 hi,.func (.func g) first caps] (.bool (eachB lo hi may A.l)):=by
 intro y0
 obtain⟨p,cap,l⟩:=A
 simp only [Sl.v] at hl hf ⊢
 obtain⟨n,hn⟩:∃ n,l.length=n:=⟨_,rfl⟩
 have hA:=hA.row.plus y0
 have hf:=fun x hx=>((hf x hx).up y0).pure
 obtain⟨W,hW⟩:∃ W,plus w y0=W:=⟨_,rfl⟩
 rw [hW] at hA ⊢
 simp only [hW] at hf
 rw [hn] at hl
 clear hW
 by_cases h1:(n:Int) < lo
 case pos =>
  have hF:=Lib.hid (show false=eachB lo hi may l by unfold eachB;rw [hn,decide_eq_false (show ¬ lo≤(n:Int) by omega)];rfl)
  rw [hn]
  clear hA hl hn hf
  go_enter Tryz.func59,Tryz.ntmps59
  go_wp2
  go_ret
  exact⟨rb hF.out,_,(plus_self W).symm⟩
 by_cases h2:hi < (n:Int)
 case pos =>
  have hF:=Lib.hid (show false=eachB lo hi may l by unfold eachB;rw [hn,decide_eq_false (show ¬ (n:Int)≤hi by omega)];simp)
  rw [hn]
  clear hA hl hn hf
  go_enter Tryz.func59,Tryz.ntmps59
  go_wp2
  go_ret
  exact⟨rb hF.out,_,(plus_self W).symm⟩
 obtain⟨R,hR⟩:∃ R,eachB lo hi may l=R:=⟨_,rfl⟩
 have h0:(l.drop 0).all may=R:=by rw [← hR];unfold eachB;rw [hn,decide_eq_true (show lo≤(n:Int) by omega),decide_eq_true (show (n:Int)≤hi by omega)];rfl
 rw [hn,hR]
 have hA':=Lib.hid hA
 have hn':=Lib.hid hn
 have hl':=Lib.hid hl
 have h0':=Lib.hid h0
 have hf':=Lib.hid hf
 have hC':=Lib.hid hC
 clear hA hl hn hR h0 hf hC
 go_enter Tryz.func59,Tryz.ntmps59
 go_wp2
 go_loopw [10,23] (fun _ iv wr=>∃ k:Nat,k≤n∧iv=.int .i64 (k:Int)∧Hid ((l.drop k).all may=R)∧∃ y,wr=plus W y) (fun _ iv _=>n - (intOf iv).toNat)
 case atStart=>exact⟨0,Nat.zero_le _,rfl,h0',⟨#[],W.drawn⟩,(plus_self W).symm⟩
 case round =>
  obtain⟨k,hk,rfl,hs,y,rfl⟩:=hrel
  by_cases hlt:k < n
  ·obtain⟨a,ha⟩:∃ s,l[k]?=some s:=⟨l[k]'(by rw [hn'.out];exact hlt),List.getElem?_eq_getElem _⟩
   obtain⟨pa,rfl,hc⟩:=hA'.out k a ha
   have q1:=hf'.out a (List.mem_of_getElem? ha)
   have hs1:(may a && (l.drop (k+1)).all may)=R:=by rw [← all_drop may l k a ha];exact hs.out
   obtain⟨Z,hZ⟩:∃ Z,may a=Z:=⟨_,rfl⟩
   rw [hZ] at q1 hs1
   obtain⟨c0,c1p,c1n,c1c,c2p,c2n,c2c,ea⟩:=hC'.out a
   rw [ea] at q1
   have d0:=fun y=>(hc.plus y).c0 _ (by rw [ea];rfl)
   have d1:=fun y=>(hc.plus y).cs 0 _ (by rw [ea];rfl)
   have d2:=fun y=>(hc.plus y).cs 1 _ (by rw [ea];rfl)
   have q1':=Lib.hid q1
   have a6:=Lib.hid (wr_succ k n hlt hl'.out)
   clear q1 hZ hc ha hs ea
   cases Z with
   | true =>
    have hs2:=Lib.hid (show (l.drop (k+1)).all may=R by rw [← hs1,Bool.true_and])
    clear hs1
    go_wp2_with (refine pure_call1 q1'.out ?_;rintro e w' ⟨rfl,x,rfl⟩)
    go_roundw
    case rel=>exact⟨k+1,hlt,congrArg (Value.int .i64) a6.out,hs2,x,rfl⟩
    case measure=>exact step_less k n hlt a6.out
   | false =>
    have hs2:=Lib.hid (show false=R by rw [← hs1,Bool.false_and])
    clear hs1
    go_wp2_with (refine pure_call1 q1'.out ?_;rintro e w' ⟨rfl,x,rfl⟩)
    go_ret
    exact⟨rb hs2.out,x,rfl⟩
  ·obtain rfl:k=n:=by omega
   have hs2:=Lib.hid (show true=R by
    rw [← hs.out,List.drop_of_length_le (by rw [hn'.out];exact Nat.le_refl _)];rfl)
   clear hs hlt hk
   go_wp2
   go_ret
   exact⟨rb hs2.out,y,rfl⟩
set_option maxHeartbeats 8000000 in
theorem each_Table {α:Type} (cells:α→List Value) (hC:∀ x,shp_Table (cells x)) (may:α→Bool) (g:FuncId) (first caps:Array Value) (K:α→Prop) (w:World) (A:Sl α) (lo hi:Int) (hA:A.In w 5 cells K) (hl:A.l.length≤1048576)
  (hent:∀ args w,(callFunc g args).run Tryz.prog w=.ok (.enter g args) w)
  (hf:∀ x ∈ A.l,Kp Tryz.prog w g (first.push (.agg (cells x).toArray)++caps) (.bool (may x))) :
  Kp Tryz.prog w 61 #[A.v,.int .i64 lo,.int .i64 hi,.func (.func g) first caps] (.bool (eachB lo hi may A.l)):=by
 intro y0
 obtain⟨p,cap,l⟩:=A
 simp only [Sl.v] at hl hf ⊢
 obtain⟨n,hn⟩:∃ n,l.length=n:=⟨_,rfl⟩
 have hA:=hA.row.plus y0
 have hf:=fun x hx=>((hf x hx).up y0).pure
 obtain⟨W,hW⟩:∃ W,plus w y0=W:=⟨_,rfl⟩
 rw [hW] at hA ⊢
 simp only [hW] at hf
 rw [hn] at hl
 clear hW
 by_cases h1:(n:Int) < lo
 case pos =>
  have hF:=Lib.hid (show false=eachB lo hi may l by unfold eachB;rw [hn,decide_eq_false (show ¬ lo≤(n:Int) by omega)];rfl)
  rw [hn]
  clear hA hl hn hf
  go_enter Tryz.func61,Tryz.ntmps61
  go_wp2
  go_ret
  exact⟨rb hF.out,_,(plus_self W).symm⟩
 by_cases h2:hi < (n:Int)
 case pos =>
  have hF:=Lib.hid (show false=eachB lo hi may l by unfold eachB;rw [hn,decide_eq_false (show ¬ (n:Int)≤hi by omega)];simp)
  rw [hn]
  clear hA hl hn hf
  go_enter Tryz.func61,Tryz.ntmps61
  go_wp2
  go_ret
  exact⟨rb hF.out,_,(plus_self W).symm⟩
 obtain⟨R,hR⟩:∃ R,eachB lo hi may l=R:=⟨_,rfl⟩
 have h0:(l.drop 0).all may=R:=by rw [← hR];unfold eachB;rw [hn,decide_eq_true (show lo≤(n:Int) by omega),decide_eq_true (show (n:Int)≤hi by omega)];rfl
 rw [hn,hR]
 have hA':=Lib.hid hA
 have hn':=Lib.hid hn
 have hl':=Lib.hid hl
 have h0':=Lib.hid h0
 have hf':=Lib.hid hf
 have hC':=Lib.hid hC
 clear hA hl hn hR h0 hf hC
 go_enter Tryz.func61,Tryz.ntmps61
 go_wp2
 go_loopw [10,23] (fun _ iv wr=>∃ k:Nat,k≤n∧iv=.int .i64 (k:Int)∧Hid ((l.drop k).all may=R)∧∃ y,wr=plus W y) (fun _ iv _=>n - (intOf iv).toNat)
 case atStart=>exact⟨0,Nat.zero_le _,rfl,h0',⟨#[],W.drawn⟩,(plus_self W).symm⟩
 case round =>
  obtain⟨k,hk,rfl,hs,y,rfl⟩:=hrel
  by_cases hlt:k < n
  ·obtain⟨a,ha⟩:∃ s,l[k]?=some s:=⟨l[k]'(by rw [hn'.out];exact hlt),List.getElem?_eq_getElem _⟩
   obtain⟨pa,rfl,hc⟩:=hA'.out k a ha
   have q1:=hf'.out a (List.mem_of_getElem? ha)
   have hs1:(may a && (l.drop (k+1)).all may)=R:=by rw [← all_drop may l k a ha];exact hs.out
   obtain⟨Z,hZ⟩:∃ Z,may a=Z:=⟨_,rfl⟩
   rw [hZ] at q1 hs1
   obtain⟨c0,c1p,c1n,c1c,c2p,c2n,c2c,c3,c4p,c4n,c4c,ea⟩:=hC'.out a
   rw [ea] at q1
   have d0:=fun y=>(hc.plus y).c0 _ (by rw [ea];rfl)
   have d1:=fun y=>(hc.plus y).cs 0 _ (by rw [ea];rfl)
   have d2:=fun y=>(hc.plus y).cs 1 _ (by rw [ea];rfl)
   have d3:=fun y=>(hc.plus y).cs 2 _ (by rw [ea];rfl)
   have d4:=fun y=>(hc.plus y).cs 3 _ (by rw [ea];rfl)
   have q1':=Lib.hid q1
   have a6:=Lib.hid (wr_succ k n hlt hl'.out)
   clear q1 hZ hc ha hs ea
   cases Z with
   | true =>
    have hs2:=Lib.hid (show (l.drop (k+1)).all may=R by rw [← hs1,Bool.true_and])
    clear hs1
    go_wp2_with (refine pure_call1 q1'.out ?_;rintro e w' ⟨rfl,x,rfl⟩)
    go_roundw
    case rel=>exact⟨k+1,hlt,congrArg (Value.int .i64) a6.out,hs2,x,rfl⟩
    case measure=>exact step_less k n hlt a6.out
   | false =>
    have hs2:=Lib.hid (show false=R by rw [← hs1,Bool.false_and])
    clear hs1
    go_wp2_with (refine pure_call1 q1'.out ?_;rintro e w' ⟨rfl,x,rfl⟩)
    go_ret
    exact⟨rb hs2.out,x,rfl⟩
  ·obtain rfl:k=n:=by omega
   have hs2:=Lib.hid (show true=R by
    rw [← hs.out,List.drop_of_length_le (by rw [hn'.out];exact Nat.le_refl _)];rfl)
   clear hs hlt hk
   go_wp2
   go_ret
   exact⟨rb hs2.out,y,rfl⟩
end Go.Proofs.YtobhijbncchpiaaGreat
