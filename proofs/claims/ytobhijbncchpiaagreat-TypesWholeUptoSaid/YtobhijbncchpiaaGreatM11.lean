/-
  WHAT IS PROVED HERE: a part of the proof (made narrower and merged by program; the parts: Fe He).
-/
import Derived.Test.YtobhijbncchpiaaGreatM3
import Derived.Test.YtobhijbncchpiaaGreatM7
import Derived.Test.YtobhijbncchpiaaGreatM8
import Derived.Test.YtobhijbncchpiaaGreatM9
import Derived.Test.YtobhijbncchpiaaGreatM10
import Derived.Test.YtobhijbncchpiaaGreatM5
namespace Go.Proofs.YtobhijbncchpiaaGreat
open Go.RowKit
set_option maxHeartbeats 8000000 in
theorem each_Key {α:Type} (cells:α→List Value) (hC:∀ x,shp_Key (cells x)) (may:α→Bool) (g:FuncId) (first caps:Array Value) (K:α→Prop) (w:World) (A:Sl α) (lo hi:Int) (hA:A.In w 10 cells K) (hl:A.l.length≤1048576)
  (hent:∀ args w,(callFunc g args).run Tryz.prog w=.ok (.enter g args) w)
  (hf:∀ x ∈ A.l,Kp Tryz.prog w g (first.push (.agg (cells x).toArray)++caps) (.bool (may x))) :
  Kp Tryz.prog w 133 #[A.v,.int .i64 lo,.int .i64 hi,.func (.func g) first caps] (.bool (eachB lo hi may A.l)):=by
 intro y0
 obtain⟨p,cap,l⟩:=A
 simp only [Sl.v] at hl hf ⊢
 obtain⟨n,hn⟩:∃ n,l.length=n:=⟨_,rfl⟩
 have hA:=hA.row.plus y0
 have hf:=fun x hx=>((hf x hx).up y0).pure
 obtain⟨W,hW⟩:∃ W,plus w y0=W:=⟨_,rfl⟩
 rw [hW] at hA ⊢
 simp only [hW] at hf
 rw [hn] at hl
 clear hW
 by_cases h1:(n:Int) < lo
 case pos =>
  have hF:=Lib.hid (show false=eachB lo hi may l by unfold eachB;rw [hn,decide_eq_false (show ¬ lo≤(n:Int) by omega)];rfl)
  rw [hn]
  clear hA hl hn hf
  go_enter Tryz.func133,Tryz.ntmps133
  go_wp2
  go_ret
  exact⟨rb hF.out,_,(plus_self W).symm⟩
 by_cases h2:hi < (n:Int)
 case pos =>
  have hF:=Lib.hid (show false=eachB lo hi may l by unfold eachB;rw [hn,decide_eq_false (show ¬ (n:Int)≤hi by omega)];simp)
  rw [hn]
  clear hA hl hn hf
  go_enter Tryz.func133,Tryz.ntmps133
  go_wp2
  go_ret
  exact⟨rb hF.out,_,(plus_self W).symm⟩
 obtain⟨R,hR⟩:∃ R,eachB lo hi may l=R:=⟨_,rfl⟩
 have h0:(l.drop 0).all may=R:=by rw [← hR];unfold eachB;rw [hn,decide_eq_true (show lo≤(n:Int) by omega),decide_eq_true (show (n:Int)≤hi by omega)];rfl
 rw [hn,hR]
 have hA':=Lib.hid hA
 have hn':=Lib.hid hn
 have hl':=Lib.hid hl
 have h0':=Lib.hid h0
 have hf':=Lib.hid hf
 have hC':=Lib.hid hC
 clear hA hl hn hR h0 hf hC
 go_enter Tryz.func133,Tryz.ntmps133
 go_wp2
 go_loopw [10,23] (fun _ iv wr=>∃ k:Nat,k≤n∧iv=.int .i64 (k:Int)∧Hid ((l.drop k).all may=R)∧∃ y,wr=plus W y) (fun _ iv _=>n - (intOf iv).toNat)
 case atStart=>exact⟨0,Nat.zero_le _,rfl,h0',⟨#[],W.drawn⟩,(plus_self W).symm⟩
 case round =>
  obtain⟨k,hk,rfl,hs,y,rfl⟩:=hrel
  by_cases hlt:k < n
  ·obtain⟨a,ha⟩:∃ s,l[k]?=some s:=⟨l[k]'(by rw [hn'.out];exact hlt),List.getElem?_eq_getElem _⟩
   obtain⟨pa,rfl,hc⟩:=hA'.out k a ha
   have q1:=hf'.out a (List.mem_of_getElem? ha)
   have hs1:(may a && (l.drop (k+1)).all may)=R:=by rw [← all_drop may l k a ha];exact hs.out
   obtain⟨Z,hZ⟩:∃ Z,may a=Z:=⟨_,rfl⟩
   rw [hZ] at q1 hs1
   obtain⟨c0,c1,c2,c3,c4,c5,c6,c7,c8p,c8n,c8c,c9,ea⟩:=hC'.out a
   rw [ea] at q1
   have d0:=fun y=>(hc.plus y).c0 _ (by rw [ea];rfl)
   have d1:=fun y=>(hc.plus y).cs 0 _ (by rw [ea];rfl)
   have d2:=fun y=>(hc.plus y).cs 1 _ (by rw [ea];rfl)
   have d3:=fun y=>(hc.plus y).cs 2 _ (by rw [ea];rfl)
   have d4:=fun y=>(hc.plus y).cs 3 _ (by rw [ea];rfl)
   have d5:=fun y=>(hc.plus y).cs 4 _ (by rw [ea];rfl)
   have d6:=fun y=>(hc.plus y).cs 5 _ (by rw [ea];rfl)
   have d7:=fun y=>(hc.plus y).cs 6 _ (by rw [ea];rfl)
   have d8:=fun y=>(hc.plus y).cs 7 _ (by rw [ea];rfl)
   have d9:=fun y=>(hc.plus y).cs 8 _ (by rw [ea];rfl)
   have q1':=Lib.hid q1
   have a6:=Lib.hid (wr_succ k n hlt hl'.out)
   clear q1 hZ hc ha hs ea
   cases Z with
   | true =>
    have hs2:=Lib.hid (show (l.drop (k+1)).all may=R by rw [← hs1,Bool.true_and])
    clear hs1
    go_wp2_with (refine pure_call1 q1'.out ?_;rintro e w' ⟨rfl,x,rfl⟩)
    go_roundw
    case rel=>exact⟨k+1,hlt,congrArg (Value.int .i64) a6.out,hs2,x,rfl⟩
    case measure=>exact step_less k n hlt a6.out
   | false =>
    have hs2:=Lib.hid (show false=R by rw [← hs1,Bool.false_and])
    clear hs1
    go_wp2_with (refine pure_call1 q1'.out ?_;rintro e w' ⟨rfl,x,rfl⟩)
    go_ret
    exact⟨rb hs2.out,x,rfl⟩
  ·obtain rfl:k=n:=by omega
   have hs2:=Lib.hid (show true=R by
    rw [← hs.out,List.drop_of_length_le (by rw [hn'.out];exact Nat.le_refl _)];rfl)
   clear hs hlt hk
   go_wp2
   go_ret
   exact⟨rb hs2.out,y,rfl⟩
set_option maxHeartbeats 8000000 in
theorem each_Lit {α:Type} (cells:α→List Value) (hC:∀ x,shp_Lit (cells x)) (may:α→Bool) (g:FuncId) (first caps:Array Value) (K:α→Prop) (w:World) (A:Sl α) (lo hi:Int) (hA:A.In w 3 cells K) (hl:A.l.length≤1048576)
  (hent:∀ args w,(callFunc g args).run Tryz.prog w=.ok (.enter g args) w)
  (hf:∀ x ∈ A.l,Kp Tryz.prog w g (first.push (.agg (cells x).toArray)++caps) (.bool (may x))) :
  Kp Tryz.prog w 135 #[A.v,.int .i64 lo,.int .i64 hi,.func (.func g) first caps] (.bool (eachB lo hi may A.l)):=by
 intro y0
 obtain⟨p,cap,l⟩:=A
 simp only [Sl.v] at hl hf ⊢
 obtain⟨n,hn⟩:∃ n,l.length=n:=⟨_,rfl⟩
 have hA:=hA.row.plus y0
 have hf:=fun x hx=>((hf x hx).up y0).pure
 obtain⟨W,hW⟩:∃ W,plus w y0=W:=⟨_,rfl⟩
 rw [hW] at hA ⊢
 simp only [hW] at hf
 rw [hn] at hl
 clear hW
 by_cases h1:(n:Int) < lo
 case pos =>
  have hF:=Lib.hid (show false=eachB lo hi may l by unfold eachB;rw [hn,decide_eq_false (show ¬ lo≤(n:Int) by omega)];rfl)
  rw [hn]
  clear hA hl hn hf
  go_enter Tryz.func135,Tryz.ntmps135
  go_wp2
  go_ret
  exact⟨rb hF.out,_,(plus_self W).symm⟩
 by_cases h2:hi < (n:Int)
 case pos =>
  have hF:=Lib.hid (show false=eachB lo hi may l by unfold eachB;rw [hn,decide_eq_false (show ¬ (n:Int)≤hi by omega)];simp)
  rw [hn]
  clear hA hl hn hf
  go_enter Tryz.func135,Tryz.ntmps135
  go_wp2
  go_ret
  exact⟨rb hF.out,_,(plus_self W).symm⟩
 obtain⟨R,hR⟩:∃ R,eachB lo hi may l=R:=⟨_,rfl⟩
 have h0:(l.drop 0).all may=R:=by rw [← hR];unfold eachB;rw [hn,decide_eq_true (show lo≤(n:Int) by omega),decide_eq_true (show (n:Int)≤hi by omega)];rfl
 rw [hn,hR]
 have hA':=Lib.hid hA
 have hn':=Lib.hid hn
 have hl':=Lib.hid hl
 have h0':=Lib.hid h0
 have hf':=Lib.hid hf
 have hC':=Lib.hid hC
 clear hA hl hn hR h0 hf hC
 go_enter Tryz.func135,Tryz.ntmps135
 go_wp2
 go_loopw [10,23] (fun _ iv wr=>∃ k:Nat,k≤n∧iv=.int .i64 (k:Int)∧Hid ((l.drop k).all may=R)∧∃ y,wr=plus W y) (fun _ iv _=>n - (intOf iv).toNat)
 case atStart=>exact⟨0,Nat.zero_le _,rfl,h0',⟨#[],W.drawn⟩,(plus_self W).symm⟩
 case round =>
  obtain⟨k,hk,rfl,hs,y,rfl⟩:=hrel
  by_cases hlt:k < n
  ·obtain⟨a,ha⟩:∃ s,l[k]?=some s:=⟨l[k]'(by rw [hn'.out];exact hlt),List.getElem?_eq_getElem _⟩
   obtain⟨pa,rfl,hc⟩:=hA'.out k a ha
   have q1:=hf'.out a (List.mem_of_getElem? ha)
   have hs1:(may a && (l.drop (k+1)).all may)=R:=by rw [← all_drop may l k a ha];exact hs.out
   obtain⟨Z,hZ⟩:∃ Z,may a=Z:=⟨_,rfl⟩
   rw [hZ] at q1 hs1
   obtain⟨c0,c1,c2,ea⟩:=hC'.out a
   rw [ea] at q1
   have d0:=fun y=>(hc.plus y).c0 _ (by rw [ea];rfl)
   have d1:=fun y=>(hc.plus y).cs 0 _ (by rw [ea];rfl)
   have d2:=fun y=>(hc.plus y).cs 1 _ (by rw [ea];rfl)
   have q1':=Lib.hid q1
   have a6:=Lib.hid (wr_succ k n hlt hl'.out)
   clear q1 hZ hc ha hs ea
   cases Z with
   | true =>
    have hs2:=Lib.hid (show (l.drop (k+1)).all may=R by rw [← hs1,Bool.true_and])
    clear hs1
    go_wp2_with (refine pure_call1 q1'.out ?_;rintro e w' ⟨rfl,x,rfl⟩)
    go_roundw
    case rel=>exact⟨k+1,hlt,congrArg (Value.int .i64) a6.out,hs2,x,rfl⟩
    case measure=>exact step_less k n hlt a6.out
   | false =>
    have hs2:=Lib.hid (show false=R by rw [← hs1,Bool.false_and])
    clear hs1
    go_wp2_with (refine pure_call1 q1'.out ?_;rintro e w' ⟨rfl,x,rfl⟩)
    go_ret
    exact⟨rb hs2.out,x,rfl⟩
  ·obtain rfl:k=n:=by omega
   have hs2:=Lib.hid (show true=R by
    rw [← hs.out,List.drop_of_length_le (by rw [hn'.out];exact Nat.le_refl _)];rfl)
   clear hs hlt hk
   go_wp2
   go_ret
   exact⟨rb hs2.out,y,rfl⟩
set_option maxHeartbeats 8000000 in
theorem each_Stmt {α:Type} (cells:α→List Value) (hC:∀ x,shp_Stmt (cells x)) (may:α→Bool) (g:FuncId) (first caps:Array Value) (K:α→Prop) (w:World) (A:Sl α) (lo hi:Int) (hA:A.In w 14 cells K) (hl:A.l.length≤1048576)
  (hent:∀ args w,(callFunc g args).run Tryz.prog w=.ok (.enter g args) w)
  (hf:∀ x ∈ A.l,Kp Tryz.prog w g (first.push (.agg (cells x).toArray)++caps) (.bool (may x))) :
  Kp Tryz.prog w 138 #[A.v,.int .i64 lo,.int .i64 hi,.func (.func g) first caps] (.bool (eachB lo hi may A.l)):=by
 intro y0
 obtain⟨p,cap,l⟩:=A
 simp only [Sl.v] at hl hf ⊢
 obtain⟨n,hn⟩:∃ n,l.length=n:=⟨_,rfl⟩
 have hA:=hA.row.plus y0
 have hf:=fun x hx=>((hf x hx).up y0).pure
 obtain⟨W,hW⟩:∃ W,plus w y0=W:=⟨_,rfl⟩
 rw [hW] at hA ⊢
 simp only [hW] at hf
 rw [hn] at hl
 clear hW
 by_cases h1:(n:Int) < lo
 case pos =>
  have hF:=Lib.hid (show false=eachB lo hi may l by unfold eachB;rw [hn,decide_eq_false (show ¬ lo≤(n:Int) by omega)];rfl)
  rw [hn]
  clear hA hl hn hf
  go_enter Tryz.func138,Tryz.ntmps138
  go_wp2
  go_ret
  exact⟨rb hF.out,_,(plus_self W).symm⟩
 by_cases h2:hi < (n:Int)
 case pos =>
  have hF:=Lib.hid (show false=eachB lo hi may l by unfold eachB;rw [hn,decide_eq_false (show ¬ (n:Int)≤hi by omega)];simp)
  rw [hn]
  clear hA hl hn hf
  go_enter Tryz.func138,Tryz.ntmps138
  go_wp2
  go_ret
  exact⟨rb hF.out,_,(plus_self W).symm⟩
 obtain⟨R,hR⟩:∃ R,eachB lo hi may l=R:=⟨_,rfl⟩
 have h0:(l.drop 0).all may=R:=by rw [← hR];unfold eachB;rw [hn,decide_eq_true (show lo≤(n:Int) by omega),decide_eq_true (show (n:Int)≤hi by omega)];rfl
 rw [hn,hR]
 have hA':=Lib.hid hA
 have hn':=Lib.hid hn
 have hl':=Lib.hid hl
 have h0':=Lib.hid h0
 have hf':=Lib.hid hf
 have hC':=Lib.hid hC
 clear hA hl hn hR h0 hf hC
 go_enter Tryz.func138,Tryz.ntmps138
 go_wp2
 go_loopw [10,23] (fun _ iv wr=>∃ k:Nat,k≤n∧iv=.int .i64 (k:Int)∧Hid ((l.drop k).all may=R)∧∃ y,wr=plus W y) (fun _ iv _=>n - (intOf iv).toNat)
 case atStart=>exact⟨0,Nat.zero_le _,rfl,h0',⟨#[],W.drawn⟩,(plus_self W).symm⟩
 case round =>
  obtain⟨k,hk,rfl,hs,y,rfl⟩:=hrel
  by_cases hlt:k < n
  ·obtain⟨a,ha⟩:∃ s,l[k]?=some s:=⟨l[k]'(by rw [hn'.out];exact hlt),List.getElem?_eq_getElem _⟩
   obtain⟨pa,rfl,hc⟩:=hA'.out k a ha
   have q1:=hf'.out a (List.mem_of_getElem? ha)
   have hs1:(may a && (l.drop (k+1)).all may)=R:=by rw [← all_drop may l k a ha];exact hs.out
   obtain⟨Z,hZ⟩:∃ Z,may a=Z:=⟨_,rfl⟩
   rw [hZ] at q1 hs1
   obtain⟨c0,c1,c2,c3,c4,c5,c6,c7,c8,c9,c10,c11p,c11n,c11c,c12p,c12n,c12c,c13p,c13n,c13c,ea⟩:=hC'.out a
   rw [ea] at q1
   have d0:=fun y=>(hc.plus y).c0 _ (by rw [ea];rfl)
   have d1:=fun y=>(hc.plus y).cs 0 _ (by rw [ea];rfl)
   have d2:=fun y=>(hc.plus y).cs 1 _ (by rw [ea];rfl)
   have d3:=fun y=>(hc.plus y).cs 2 _ (by rw [ea];rfl)
   have d4:=fun y=>(hc.plus y).cs 3 _ (by rw [ea];rfl)
   have d5:=fun y=>(hc.plus y).cs 4 _ (by rw [ea];rfl)
   have d6:=fun y=>(hc.plus y).cs 5 _ (by rw [ea];rfl)
   have d7:=fun y=>(hc.plus y).cs 6 _ (by rw [ea];rfl)
   have d8:=fun y=>(hc.plus y).cs 7 _ (by rw [ea];rfl)
   have d9:=fun y=>(hc.plus y).cs 8 _ (by rw [ea];rfl)
   have d10:=fun y=>(hc.plus y).cs 9 _ (by rw [ea];rfl)
   have d11:=fun y=>(hc.plus y).cs 10 _ (by rw [ea];rfl)
   have d12:=fun y=>(hc.plus y).cs 11 _ (by rw [ea];rfl)
   have d13:=fun y=>(hc.plus y).cs 12 _ (by rw [ea];rfl)
   have q1':=Lib.hid q1
   have a6:=Lib.hid (wr_succ k n hlt hl'.out)
   clear q1 hZ hc ha hs ea
   cases Z with
   | true =>
    have hs2:=Lib.hid (show (l.drop (k+1)).all may=R by rw [← hs1,Bool.true_and])
    clear hs1
    go_wp2_with (refine pure_call1 q1'.out ?_;rintro e w' ⟨rfl,x,rfl⟩)
    go_roundw
    case rel=>exact⟨k+1,hlt,congrArg (Value.int .i64) a6.out,hs2,x,rfl⟩
    case measure=>exact step_less k n hlt a6.out
   | false =>
    have hs2:=Lib.hid (show false=R by rw [← hs1,Bool.false_and])
    clear hs1
    go_wp2_with (refine pure_call1 q1'.out ?_;rintro e w' ⟨rfl,x,rfl⟩)
    go_ret
    exact⟨rb hs2.out,x,rfl⟩
  ·obtain rfl:k=n:=by omega
   have hs2:=Lib.hid (show true=R by
    rw [← hs.out,List.drop_of_length_le (by rw [hn'.out];exact Nat.le_refl _)];rfl)
   clear hs hlt hk
   go_wp2
   go_ret
   exact⟨rb hs2.out,y,rfl⟩
set_option maxHeartbeats 8000000 in
theorem each_Case {α:Type} (cells:α→List Value) (hC:∀ x,shp_Case (cells x)) (may:α→Bool) (g:FuncId) (first caps:Array Value) (K:α→Prop) (w:World) (A:Sl α) (lo hi:Int) (hA:A.In w 3 cells K) (hl:A.l.length≤1048576)
  (hent:∀ args w,(callFunc g args).run Tryz.prog w=.ok (.enter g args) w)
  (hf:∀ x ∈ A.l,Kp Tryz.prog w g (first.push (.agg (cells x).toArray)++caps) (.bool (may x))) :
  Kp Tryz.prog w 191 #[A.v,.int .i64 lo,.int .i64 hi,.func (.func g) first caps] (.bool (eachB lo hi may A.l)):=by
 intro y0
 obtain⟨p,cap,l⟩:=A
 simp only [Sl.v] at hl hf ⊢
 obtain⟨n,hn⟩:∃ n,l.length=n:=⟨_,rfl⟩
 have hA:=hA.row.plus y0
 have hf:=fun x hx=>((hf x hx).up y0).pure
 obtain⟨W,hW⟩:∃ W,plus w y0=W:=⟨_,rfl⟩
 rw [hW] at hA ⊢
 simp only [hW] at hf
 rw [hn] at hl
 clear hW
 by_cases h1:(n:Int) < lo
 case pos =>
  have hF:=Lib.hid (show false=eachB lo hi may l by unfold eachB;rw [hn,decide_eq_false (show ¬ lo≤(n:Int) by omega)];rfl)
  rw [hn]
  clear hA hl hn hf
  go_enter Tryz.func191,Tryz.ntmps191
  go_wp2
  go_ret
  exact⟨rb hF.out,_,(plus_self W).symm⟩
 by_cases h2:hi < (n:Int)
 case pos =>
  have hF:=Lib.hid (show false=eachB lo hi may l by unfold eachB;rw [hn,decide_eq_false (show ¬ (n:Int)≤hi by omega)];simp)
  rw [hn]
  clear hA hl hn hf
  go_enter Tryz.func191,Tryz.ntmps191
  go_wp2
  go_ret
  exact⟨rb hF.out,_,(plus_self W).symm⟩
 obtain⟨R,hR⟩:∃ R,eachB lo hi may l=R:=⟨_,rfl⟩
 have h0:(l.drop 0).all may=R:=by rw [← hR];unfold eachB;rw [hn,decide_eq_true (show lo≤(n:Int) by omega),decide_eq_true (show (n:Int)≤hi by omega)];rfl
 rw [hn,hR]
 have hA':=Lib.hid hA
 have hn':=Lib.hid hn
 have hl':=Lib.hid hl
 have h0':=Lib.hid h0
 have hf':=Lib.hid hf
 have hC':=Lib.hid hC
 clear hA hl hn hR h0 hf hC
 go_enter Tryz.func191,Tryz.ntmps191
 go_wp2
 go_loopw [10,23] (fun _ iv wr=>∃ k:Nat,k≤n∧iv=.int .i64 (k:Int)∧Hid ((l.drop k).all may=R)∧∃ y,wr=plus W y) (fun _ iv _=>n - (intOf iv).toNat)
 case atStart=>exact⟨0,Nat.zero_le _,rfl,h0',⟨#[],W.drawn⟩,(plus_self W).symm⟩
 case round =>
  obtain⟨k,hk,rfl,hs,y,rfl⟩:=hrel
  by_cases hlt:k < n
  ·obtain⟨a,ha⟩:∃ s,l[k]?=some s:=⟨l[k]'(by rw [hn'.out];exact hlt),List.getElem?_eq_getElem _⟩
   obtain⟨pa,rfl,hc⟩:=hA'.out k a ha
   have q1:=hf'.out a (List.mem_of_getElem? ha)
   have hs1:(may a && (l.drop (k+1)).all may)=R:=by rw [← all_drop may l k a ha];exact hs.out
   obtain⟨Z,hZ⟩:∃ Z,may a=Z:=⟨_,rfl⟩
   rw [hZ] at q1 hs1
   obtain⟨c0,c1p,c1n,c1c,c2,ea⟩:=hC'.out a
   rw [ea] at q1
   have d0:=fun y=>(hc.plus y).c0 _ (by rw [ea];rfl)
   have d1:=fun y=>(hc.plus y).cs 0 _ (by rw [ea];rfl)
   have d2:=fun y=>(hc.plus y).cs 1 _ (by rw [ea];rfl)
   have q1':=Lib.hid q1
   have a6:=Lib.hid (wr_succ k n hlt hl'.out)
   clear q1 hZ hc ha hs ea
   cases Z with
   | true =>
    have hs2:=Lib.hid (show (l.drop (k+1)).all may=R by rw [← hs1,Bool.true_and])
    clear hs1
    go_wp2_with (refine pure_call1 q1'.out ?_;rintro e w' ⟨rfl,x,rfl⟩)
    go_roundw
    case rel=>exact⟨k+1,hlt,congrArg (Value.int .i64) a6.out,hs2,x,rfl⟩
    case measure=>exact step_less k n hlt a6.out
   | false =>
    have hs2:=Lib.hid (show false=R by rw [← hs1,Bool.false_and])
    clear hs1
    go_wp2_with (refine pure_call1 q1'.out ?_;rintro e w' ⟨rfl,x,rfl⟩)
    go_ret
    exact⟨rb hs2.out,x,rfl⟩
  ·obtain rfl:k=n:=by omega
   have hs2:=Lib.hid (show true=R by
    rw [← hs.out,List.drop_of_length_le (by rw [hn'.out];exact Nat.le_refl _)];rfl)
   clear hs hlt hk
   go_wp2
   go_ret
   exact⟨rb hs2.out,y,rfl⟩
set_option maxHeartbeats 8000000 in
theorem each_Set {α:Type} (cells:α→List Value) (hC:∀ x,shp_Set (cells x)) (may:α→Bool) (g:FuncId) (first caps:Array Value) (K:α→Prop) (w:World) (A:Sl α) (lo hi:Int) (hA:A.In w 7 cells K) (hl:A.l.length≤1048576)
  (hent:∀ args w,(callFunc g args).run Tryz.prog w=.ok (.enter g args) w)
  (hf:∀ x ∈ A.l,Kp Tryz.prog w g (first.push (.agg (cells x).toArray)++caps) (.bool (may x))) :
  Kp Tryz.prog w 214 #[A.v,.int .i64 lo,.int .i64 hi,.func (.func g) first caps] (.bool (eachB lo hi may A.l)):=by
 intro y0
 obtain⟨p,cap,l⟩:=A
 simp only [Sl.v] at hl hf ⊢
 obtain⟨n,hn⟩:∃ n,l.length=n:=⟨_,rfl⟩
 have hA:=hA.row.plus y0
 have hf:=fun x hx=>((hf x hx).up y0).pure
 obtain⟨W,hW⟩:∃ W,plus w y0=W:=⟨_,rfl⟩
 rw [hW] at hA ⊢
 simp only [hW] at hf
 rw [hn] at hl
 clear hW
 by_cases h1:(n:Int) < lo
 case pos =>
  have hF:=Lib.hid (show false=eachB lo hi may l by unfold eachB;rw [hn,decide_eq_false (show ¬ lo≤(n:Int) by omega)];rfl)
  rw [hn]
  clear hA hl hn hf
  go_enter Tryz.func214,Tryz.ntmps214
  go_wp2
  go_ret
  exact⟨rb hF.out,_,(plus_self W).symm⟩
 by_cases h2:hi < (n:Int)
 case pos =>
  have hF:=Lib.hid (show false=eachB lo hi may l by unfold eachB;rw [hn,decide_eq_false (show ¬ (n:Int)≤hi by omega)];simp)
  rw [hn]
  clear hA hl hn hf
  go_enter Tryz.func214,Tryz.ntmps214
  go_wp2
  go_ret
  exact⟨rb hF.out,_,(plus_self W).symm⟩
 obtain⟨R,hR⟩:∃ R,eachB lo hi may l=R:=⟨_,rfl⟩
 have h0:(l.drop 0).all may=R:=by rw [← hR];unfold eachB;rw [hn,decide_eq_true (show lo≤(n:Int) by omega),decide_eq_true (show (n:Int)≤hi by omega)];rfl
 rw [hn,hR]
 have hA':=Lib.hid hA
 have hn':=Lib.hid hn
 have hl':=Lib.hid hl
 have h0':=Lib.hid h0
 have hf':=Lib.hid hf
 have hC':=Lib.hid hC
 clear hA hl hn hR h0 hf hC
 go_enter Tryz.func214,Tryz.ntmps214
 go_wp2
 go_loopw [10,23] (fun _ iv wr=>∃ k:Nat,k≤n∧iv=.int .i64 (k:Int)∧Hid ((l.drop k).all may=R)∧∃ y,wr=plus W y) (fun _ iv _=>n - (intOf iv).toNat)
 case atStart=>exact⟨0,Nat.zero_le _,rfl,h0',⟨#[],W.drawn⟩,(plus_self W).symm⟩
 case round =>
  obtain⟨k,hk,rfl,hs,y,rfl⟩:=hrel
  by_cases hlt:k < n
  ·obtain⟨a,ha⟩:∃ s,l[k]?=some s:=⟨l[k]'(by rw [hn'.out];exact hlt),List.getElem?_eq_getElem _⟩
   obtain⟨pa,rfl,hc⟩:=hA'.out k a ha
   have q1:=hf'.out a (List.mem_of_getElem? ha)
   have hs1:(may a && (l.drop (k+1)).all may)=R:=by rw [← all_drop may l k a ha];exact hs.out
   obtain⟨Z,hZ⟩:∃ Z,may a=Z:=⟨_,rfl⟩
   rw [hZ] at q1 hs1
   obtain⟨c0,c1,c2,c3,c4,c5,c6,ea⟩:=hC'.out a
   rw [ea] at q1
   have d0:=fun y=>(hc.plus y).c0 _ (by rw [ea];rfl)
   have d1:=fun y=>(hc.plus y).cs 0 _ (by rw [ea];rfl)
   have d2:=fun y=>(hc.plus y).cs 1 _ (by rw [ea];rfl)
   have d3:=fun y=>(hc.plus y).cs 2 _ (by rw [ea];rfl)
   have d4:=fun y=>(hc.plus y).cs 3 _ (by rw [ea];rfl)
   have d5:=fun y=>(hc.plus y).cs 4 _ (by rw [ea];rfl)
   have d6:=fun y=>(hc.plus y).cs 5 _ (by rw [ea];rfl)
   have q1':=Lib.hid q1
   have a6:=Lib.hid (wr_succ k n hlt hl'.out)
   clear q1 hZ hc ha hs ea
   cases Z with
   | true =>
    have hs2:=Lib.hid (show (l.drop (k+1)).all may=R by rw [← hs1,Bool.true_and])
    clear hs1
    go_wp2_with (refine pure_call1 q1'.out ?_;rintro e w' ⟨rfl,x,rfl⟩)
    go_roundw
    case rel=>exact⟨k+1,hlt,congrArg (Value.int .i64) a6.out,hs2,x,rfl⟩
    case measure=>exact step_less k n hlt a6.out
   | false =>
    have hs2:=Lib.hid (show false=R by rw [← hs1,Bool.false_and])
    clear hs1
    go_wp2_with (refine pure_call1 q1'.out ?_;rintro e w' ⟨rfl,x,rfl⟩)
    go_ret
    exact⟨rb hs2.out,x,rfl⟩
  ·obtain rfl:k=n:=by omega
   have hs2:=Lib.hid (show true=R by
    rw [← hs.out,List.drop_of_length_le (by rw [hn'.out];exact Nat.le_refl _)];rfl)
   clear hs hlt hk
   go_wp2
   go_ret
   exact⟨rb hs2.out,y,rfl⟩
theorem Kp.all {P:Program} {w:World} {f:FuncId} {args:Array Value} {v:Value} (h:Pure P f args v):Kp P w f args v:=fun _=>h _
def Lt.n (t:Lt):Nat:=t.h.toNat*18446744073709551616+t.l.toNat
theorem wf_u64 {h:Int} (k:(Lit.int .u64 h).wf=true):0≤h∧h < 18446744073709551616:=by
 simp [Lit.wf,IntKind.min,IntKind.max,IntKind.signed,IntKind.bits] at k
 omega
theorem Lt.nv_eq {t:Lt} (h:t.Ok):Value.agg #[.int .u64 t.h,.int .u64 t.l]=nv t.n:=by
 have h1:=wf_u64 h.h
 have h2:=wf_u64 h.l
 have e1:hi t.n=t.h:=by unfold hi Lt.n;omega
 have e2:lo t.n=t.l:=by unfold lo Lt.n;omega
 unfold nv
 rw [e1,e2]
theorem Lt.n_lt {t:Lt} (h:t.Ok):t.n < B128:=by
 have h1:=wf_u64 h.h
 have h2:=wf_u64 h.l
 unfold Lt.n B128
 omega
def ltB (t:Lt):Bool:=(t.w == 0) || (widthB t.w && decide (t.n % 2 ^ hw t.w=t.n))
def litB (is:Bool) (t:Lt):Bool:=if is then ltB t else ((t.w == 0) && ((t.h == 0) && (t.l == 0)))
def nmB (s:ByteArray) (p:Int):Bool:=if s.toList == [] then p != 1 else ((p != 0) && nameB s)
def endB (a b:Int) (is:Bool):Bool:=if is then (decide (0≤b) && (decide (b≤a) && decide (a < 128))) else ((a == 0) && (b == 0))
def amtB (e:Ex):Bool:=(e.op == 1) && ((e.lit.w == 0) && decide (cmpN e.lit.n 127≤0))
def tgtB (s:ByteArray):Bool:=(s.toList == [97,99,99,101,112,116]) || ((s.toList == [114,101,106,101,99,116]) || nameB s)
def amt2:List Ex→Bool
 | [_,b]=>amtB b
 | _=>false
def Ex.fits (e:Ex):Bool:=litB (xLit e.op) e.lit && (nmB e.head (xHead e.op) && (nmB e.name (xName e.op) && (endB e.hi e.lo (xSlice e.op) && (((e.args.length:Int) == xArgs e.op) && (!(xShift e.op) || amt2 e.args)))))
/-- May it be, with so much room? -/
def Ex.may:Nat→Ex→Bool
 | 0,_=>false
 | n+1,e=>xIs e.op && (e.fits && eachB (xArgs e.op) (xArgs e.op) (Ex.may n) e.args)
def fdB (f:Fd):Bool:=nameB f.name && widthB f.w
def hrB (h:Hr):Bool:=nameB h.name && eachB 1 16 fdB h.fields.l
theorem name_in (s:ByteArray) (w:World) (hs:s.size≤1048576):Kp Tryz.prog w 65 #[.string s] (.bool (nameB s)):=Kp.all (tok_name s (by omega))
theorem lit_in (t:Lt) (w:World) (h:t.Ok):Kp Tryz.prog w 136 #[.agg t.cells.toArray] (.bool (ltB t)) :=
 lit_of t.w t.h t.l _ _ w (ast_width t.w w) (Kp.all (by rw [Lt.nv_eq h];exact num_fits t.n t.w (Lt.n_lt h)))
theorem litfits_in (t:Lt) (is:Bool) (w:World) (h:t.Ok):Kp Tryz.prog w 210 #[.agg t.cells.toArray,.bool is] (.bool (litB is t)):=litfits_of t.w t.h t.l is _ w (lit_in t w h)
theorem namefits_in (s:ByteArray) (p:Int) (w:World) (hs:s.size≤1048576):Kp Tryz.prog w 211 #[.string s,.int .u8 p] (.bool (nmB s p)):=namefits_of s p _ w (name_in s w hs)
theorem target_in (s:ByteArray) (w:World) (hs:s.size≤1048576):Kp Tryz.prog w 190 #[.string s] (.bool (tgtB s)):=target_of s _ w (name_in s w hs)
theorem field_in (f:Fd) (w:World) (h:f.sz≤1048576):Kp Tryz.prog w 56 #[.agg f.cells.toArray] (.bool (fdB f)):=field_of f.name f.w _ _ w (name_in f.name w (by unfold Fd.sz at h;omega)) (ast_width f.w w)
theorem amount_in (e:Ex) (w:World) (h:e.In w):Kp Tryz.prog w 213 #[.agg e.cells.toArray] (.bool (amtB e)):=by
 obtain⟨_,_,lit,_⟩:=h
 exact amount_of e.op e.lit.w e.lit.h e.lit.l e.head e.name e.hi e.lo e.p e.args.length e.cap _ w (Kp.all (num_of 127 (by decide))) (Kp.all (by rw [Lt.nv_eq lit];exact num_cmp e.lit.n 127))
theorem fits_in (e:Ex) (w:World) (h:e.In w) (hz:e.wt≤1048576):Kp Tryz.prog w 187 #[xVal e.op,.agg e.cells.toArray] (.bool e.fits):=by
 have h':=h
 obtain⟨_,_,lit,_,_,hd,nm,len,cap,row,kids⟩:=h'
 have hz':=Ex.wt_eq e
 have k0:=litfits_in e.lit (xLit e.op) w lit
 have k1:=namefits_in e.head (xHead e.op) w (by omega)
 have k2:=namefits_in e.name (xName e.op) w (by omega)
 have k3:Kp Tryz.prog w 212 #[.int .i64 e.hi,.int .i64 e.lo,.bool (xSlice e.op)] (.bool (endB e.hi e.lo (xSlice e.op))):=slicefits_of e.hi e.lo (xSlice e.op) w
 unfold xVal Ex.fits
 cases hS:xShift e.op with
 | false =>
  refine (fits_a _ _ _ _ _ e.op e.lit.w e.lit.h e.lit.l e.head e.name e.hi e.lo e.p e.args.length e.cap _ _ _ _ w k0 k1 k2 k3).eqv ?_
  simp
 | true =>
  have h2:xArgs e.op=2:=by
   unfold xShift at hS
   rw [Bool.or_eq_true,beq_iff_eq,beq_iff_eq] at hS
   unfold xArgs
   rw [if_neg (by omega),if_pos (by omega)]
  rw [h2]
  by_cases hn:e.args.length=2
  ·obtain⟨a,b,hab⟩:∃ a b,e.args=[a,b]:=by
    match e.args,hn with
    | [a,b],_=>exact⟨a,b,rfl⟩
   obtain⟨pa,hp,hc⟩:=row 1 b (by rw [hab];rfl)
   have hb:b.In w:=kids b (by rw [hab];simp)
   have k4:=amount_in b w hb
   have hcells:e.cells=[.int .u8 e.op,.int .i64 e.lit.w,.int .u64 e.lit.h,.int .u64 e.lit.l,.string e.head,.string e.name,.int .i64 e.hi,.int .i64 e.lo,.slice (some pa) 2 e.cap]:=by unfold Ex.cells;rw [hp,hn]
   rw [hcells]
   refine (fits_c _ _ _ _ e.op e.lit.w e.lit.h e.lit.l e.head e.name e.hi e.lo pa e.cap b.op b.lit.w b.lit.h b.lit.l b.head b.name b.hi b.lo b.p b.args.length b.cap _ _ _ _ _ w hc k0 k1 k2 k3 k4).eqv ?_
   rw [hab]
   simp [amt2]
  ·refine (fits_b _ _ _ _ e.op e.lit.w e.lit.h e.lit.l e.head e.name e.hi e.lo e.p e.args.length e.cap _ _ _ _ w hn k0 k1 k2 k3).eqv ?_
   have:((e.args.length:Int) == 2)=false:=by
    first|(simp;done)|(simp;omega)
   rw [this]
   simp
end Go.Proofs.YtobhijbncchpiaaGreat
