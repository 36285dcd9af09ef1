/-
  WHAT IS PROVED HERE: a part of the proof (made narrower and merged by program; the parts: Log Lox).
-/
import Derived.Test.YtheaknidbcbneaaGreatM14
import Derived.Test.YtheaknidbcbneaaGreatM9
set_option maxRecDepth 100000
set_option maxHeartbeats 8000000
set_option linter.all false
namespace Go.Proofs.YtheaknidbcbneaaGreat
open Go.RowKit Go.Proofs.Tryz
open Below renaming refl→Zc
open Bool renaming true_and→Ze
open Ending renaming returned→Zf
open Lib renaming hid→Zg
open List renaming drop_of_length_le→Zh
open Nat renaming le_refl→Zp,zero_le→Zq
open Go.Proofs.Tryz renaming prog→Zr
open Value renaming bool→Zs,int→Zt
open Go.RowKit
theorem MQ{α:Type}(cells:α→List Value)(hC:∀x,OU (cells x))(may:Nat→α→Bool)(g:FuncId)(first caps:Array Value)(K:α→Prop)(w:World)(A:Sl α)(lo hi)(hA:A.In w 4 cells K)(hl:A.l.length≤1048576)(Wb:∀args w,(callFunc g args).run Zr w=.ok (.enter g args) w)(hf:∀(i:Nat) (x:α),A.l[i]?=some x→Kp Zr w g (first++(#[.int .i64 (i:Int),.agg (cells x).toArray]++caps)) (.bool (may i x))) :
  Kp Zr w 46 #[A.v,.int .i64 lo,.int .i64 hi,.func (.func g) first caps] (.bool (ZM lo hi may A.l)):=by
 intro y0;obtain⟨p,cap,l⟩:=A;simp only[Sl.v]at hl hf ⊢;obtain⟨n,hn⟩:=Zv l.length;have hA:=hA.row.plus y0;have hf:=fun i x hx=>((hf i x hx).up y0).pure;obtain⟨W,hW⟩:=Zv (plus w y0);rw[hW]at hA ⊢;simp only[hW]at hf;rw[hn]at hl;clear hW;by_cases h1:(n:Int)<lo
 case pos =>
  have hF:=Zg (show false=ZM lo hi may l by unfold ZM;rw[hn,decide_eq_false (show ¬lo≤(n:Int) by omega)];rfl);rw[hn];clear hA hl hn hf;go_enter func46,ntmps46;go_wp2;go_ret;exact⟨congrArg (fun z=>Zf (Zs z)) hF.out,_,(ZK W).symm⟩
 by_cases h2:hi<(n:Int)
 case pos =>
  have hF:=Zg (show false=ZM lo hi may l by unfold ZM;rw[hn,decide_eq_false (show ¬(n:Int)≤hi by omega)];simp);rw[hn];clear hA hl hn hf;go_enter func46,ntmps46;go_wp2;go_ret;exact⟨congrArg (fun z=>Zf (Zs z)) hF.out,_,(ZK W).symm⟩
 obtain⟨R,hR⟩:=Zv (ZM lo hi may l);have h0:ZU may 0 (l.drop 0)=R:=by rw[←hR];unfold ZM;rw[hn,decide_eq_true (show lo≤(n:Int) by omega),decide_eq_true (show (n:Int)≤hi by omega)];rfl
 rw[hn,hR];have ZR:=Zg hA;have ZJ:=Zg hn;have ZX:=Zg hl;have Yd:=Zg h0;have Yu:=Zg hf;have Xr:=Zg hC;clear hA hl hn hR h0 hf hC;go_enter func46,ntmps46;go_wp2;go_loopw [9,10,23] (fun _ _ iv wr=>∃k:Nat,k≤n∧iv=.int .i64 (k:Int)∧Hid (ZU may k (l.drop k)=R)∧∃y,wr=plus W y) (fun _ _ iv _=>n-(intOf iv).toNat)
 case atStart=>exact⟨0,Zq _,rfl,Yd,⟨#[],W.drawn⟩,(ZK W).symm⟩
 case round =>
  obtain⟨k,hk,rfl,hs,y,rfl⟩:=hrel;by_cases Zz:k<n
  ·obtain⟨a,ha⟩:=Z6 l k (by rw[ZJ.out];exact Zz)
   obtain⟨pa,rfl,hc⟩:=ZR.out k a ha;have q1:=Yu.out k a ha;have ZB:(may k a&&ZU may (k+1) (l.drop (k+1)))=R:=by rw[←WK may l k a ha];exact hs.out
   obtain⟨Z,hZ⟩:=Zv (may k a);rw[hZ]at q1 ZB;obtain⟨a0p,a0n,a0c,a1p,a1n,a1c,a2p,a2n,a2c,a3,ea⟩:=Xr.out a;rw[ea]at q1;have d0:=fun y=>(hc.plus y).c0 _ (by rw[ea];rfl);have d1:=fun y=>(hc.plus y).cs 0 _ (by rw[ea];rfl);have d2:=fun y=>(hc.plus y).cs 1 _ (by rw[ea];rfl);have d3:=fun y=>(hc.plus y).cs 2 _ (by rw[ea];rfl);have q1':=Zg q1;have a6:=Zg (Yo k n Zz ZX.out);clear q1 hZ hc ha hs ea;cases Z with
   | true =>
    have ZD:=Zg (show ZU may (k+1) (l.drop (k+1))=R by rw[←ZB,Ze]);clear ZB;go_wp2_with (refine XV q1'.out ?_;rintro e w' ⟨rfl,x,rfl⟩);go_roundw
    case rel=>exact⟨k+1,Zz,congrArg (Zt .i64) a6.out,ZD,x,rfl⟩
    case measure=>exact YF k n Zz a6.out
   | false =>
    have ZD:=Zg (show false=R by rw[←ZB,Bool.false_and]);clear ZB;go_wp2_with (refine XV q1'.out ?_;rintro e w' ⟨rfl,x,rfl⟩);go_ret;exact⟨congrArg (fun z=>Zf (Zs z)) ZD.out,x,rfl⟩
  ·obtain rfl:k=n:=by omega
   have ZD:=Zg (show true=R by
    rw[←hs.out,Zh (by rw[ZJ.out];exact Zp _)];rfl)
   clear hs Zz hk;go_wp2;go_ret;exact⟨congrArg (fun z=>Zf (Zs z)) ZD.out,y,rfl⟩
theorem ML{α:Type}(cells:α→List Value)(hC:∀x,OP (cells x))(may:Nat→α→Bool)(g:FuncId)(first caps:Array Value)(K:α→Prop)(w:World)(A:Sl α)(lo hi)(hA:A.In w 2 cells K)(hl:A.l.length≤1048576)(Wb:∀args w,(callFunc g args).run Zr w=.ok (.enter g args) w)(hf:∀(i:Nat) (x:α),A.l[i]?=some x→Kp Zr w g (first++(#[.int .i64 (i:Int),.agg (cells x).toArray]++caps)) (.bool (may i x))) :
  Kp Zr w 49 #[A.v,.int .i64 lo,.int .i64 hi,.func (.func g) first caps] (.bool (ZM lo hi may A.l)):=by
 intro y0;obtain⟨p,cap,l⟩:=A;simp only[Sl.v]at hl hf ⊢;obtain⟨n,hn⟩:=Zv l.length;have hA:=hA.row.plus y0;have hf:=fun i x hx=>((hf i x hx).up y0).pure;obtain⟨W,hW⟩:=Zv (plus w y0);rw[hW]at hA ⊢;simp only[hW]at hf;rw[hn]at hl;clear hW;by_cases h1:(n:Int)<lo
 case pos =>
  have hF:=Zg (show false=ZM lo hi may l by unfold ZM;rw[hn,decide_eq_false (show ¬lo≤(n:Int) by omega)];rfl);rw[hn];clear hA hl hn hf;go_enter func49,ntmps49;go_wp2;go_ret;exact⟨congrArg (fun z=>Zf (Zs z)) hF.out,_,(ZK W).symm⟩
 by_cases h2:hi<(n:Int)
 case pos =>
  have hF:=Zg (show false=ZM lo hi may l by unfold ZM;rw[hn,decide_eq_false (show ¬(n:Int)≤hi by omega)];simp);rw[hn];clear hA hl hn hf;go_enter func49,ntmps49;go_wp2;go_ret;exact⟨congrArg (fun z=>Zf (Zs z)) hF.out,_,(ZK W).symm⟩
 obtain⟨R,hR⟩:=Zv (ZM lo hi may l);have h0:ZU may 0 (l.drop 0)=R:=by rw[←hR];unfold ZM;rw[hn,decide_eq_true (show lo≤(n:Int) by omega),decide_eq_true (show (n:Int)≤hi by omega)];rfl
 rw[hn,hR];have ZR:=Zg hA;have ZJ:=Zg hn;have ZX:=Zg hl;have Yd:=Zg h0;have Yu:=Zg hf;have Xr:=Zg hC;clear hA hl hn hR h0 hf hC;go_enter func49,ntmps49;go_wp2;go_loopw [9,10,23] (fun _ _ iv wr=>∃k:Nat,k≤n∧iv=.int .i64 (k:Int)∧Hid (ZU may k (l.drop k)=R)∧∃y,wr=plus W y) (fun _ _ iv _=>n-(intOf iv).toNat)
 case atStart=>exact⟨0,Zq _,rfl,Yd,⟨#[],W.drawn⟩,(ZK W).symm⟩
 case round =>
  obtain⟨k,hk,rfl,hs,y,rfl⟩:=hrel;by_cases Zz:k<n
  ·obtain⟨a,ha⟩:=Z6 l k (by rw[ZJ.out];exact Zz)
   obtain⟨pa,rfl,hc⟩:=ZR.out k a ha;have q1:=Yu.out k a ha;have ZB:(may k a&&ZU may (k+1) (l.drop (k+1)))=R:=by rw[←WK may l k a ha];exact hs.out
   obtain⟨Z,hZ⟩:=Zv (may k a);rw[hZ]at q1 ZB;obtain⟨a0p,a0n,a0c,a1p,a1n,a1c,ea⟩:=Xr.out a;rw[ea]at q1;have d0:=fun y=>(hc.plus y).c0 _ (by rw[ea];rfl);have d1:=fun y=>(hc.plus y).cs 0 _ (by rw[ea];rfl);have q1':=Zg q1;have a6:=Zg (Yo k n Zz ZX.out);clear q1 hZ hc ha hs ea;cases Z with
   | true =>
    have ZD:=Zg (show ZU may (k+1) (l.drop (k+1))=R by rw[←ZB,Ze]);clear ZB;go_wp2_with (refine XV q1'.out ?_;rintro e w' ⟨rfl,x,rfl⟩);go_roundw
    case rel=>exact⟨k+1,Zz,congrArg (Zt .i64) a6.out,ZD,x,rfl⟩
    case measure=>exact YF k n Zz a6.out
   | false =>
    have ZD:=Zg (show false=R by rw[←ZB,Bool.false_and]);clear ZB;go_wp2_with (refine XV q1'.out ?_;rintro e w' ⟨rfl,x,rfl⟩);go_ret;exact⟨congrArg (fun z=>Zf (Zs z)) ZD.out,x,rfl⟩
  ·obtain rfl:k=n:=by omega
   have ZD:=Zg (show true=R by
    rw[←hs.out,Zh (by rw[ZJ.out];exact Zp _)];rfl)
   clear hs Zz hk;go_wp2;go_ret;exact⟨congrArg (fun z=>Zf (Zs z)) ZD.out,y,rfl⟩
theorem MR{α:Type}(cells:α→List Value)(hC:∀x,OV (cells x))(may:Nat→α→Bool)(g:FuncId)(first caps:Array Value)(K:α→Prop)(w:World)(A:Sl α)(lo hi)(hA:A.In w 5 cells K)(hl:A.l.length≤1048576)(Wb:∀args w,(callFunc g args).run Zr w=.ok (.enter g args) w)(hf:∀(i:Nat) (x:α),A.l[i]?=some x→Kp Zr w g (first++(#[.int .i64 (i:Int),.agg (cells x).toArray]++caps)) (.bool (may i x))) :
  Kp Zr w 51 #[A.v,.int .i64 lo,.int .i64 hi,.func (.func g) first caps] (.bool (ZM lo hi may A.l)):=by
 intro y0;obtain⟨p,cap,l⟩:=A;simp only[Sl.v]at hl hf ⊢;obtain⟨n,hn⟩:=Zv l.length;have hA:=hA.row.plus y0;have hf:=fun i x hx=>((hf i x hx).up y0).pure;obtain⟨W,hW⟩:=Zv (plus w y0);rw[hW]at hA ⊢;simp only[hW]at hf;rw[hn]at hl;clear hW;by_cases h1:(n:Int)<lo
 case pos =>
  have hF:=Zg (show false=ZM lo hi may l by unfold ZM;rw[hn,decide_eq_false (show ¬lo≤(n:Int) by omega)];rfl);rw[hn];clear hA hl hn hf;go_enter func51,ntmps51;go_wp2;go_ret;exact⟨congrArg (fun z=>Zf (Zs z)) hF.out,_,(ZK W).symm⟩
 by_cases h2:hi<(n:Int)
 case pos =>
  have hF:=Zg (show false=ZM lo hi may l by unfold ZM;rw[hn,decide_eq_false (show ¬(n:Int)≤hi by omega)];simp);rw[hn];clear hA hl hn hf;go_enter func51,ntmps51;go_wp2;go_ret;exact⟨congrArg (fun z=>Zf (Zs z)) hF.out,_,(ZK W).symm⟩
 obtain⟨R,hR⟩:=Zv (ZM lo hi may l);have h0:ZU may 0 (l.drop 0)=R:=by rw[←hR];unfold ZM;rw[hn,decide_eq_true (show lo≤(n:Int) by omega),decide_eq_true (show (n:Int)≤hi by omega)];rfl
 rw[hn,hR];have ZR:=Zg hA;have ZJ:=Zg hn;have ZX:=Zg hl;have Yd:=Zg h0;have Yu:=Zg hf;have Xr:=Zg hC;clear hA hl hn hR h0 hf hC;go_enter func51,ntmps51;go_wp2;go_loopw [9,10,23] (fun _ _ iv wr=>∃k:Nat,k≤n∧iv=.int .i64 (k:Int)∧Hid (ZU may k (l.drop k)=R)∧∃y,wr=plus W y) (fun _ _ iv _=>n-(intOf iv).toNat)
 case atStart=>exact⟨0,Zq _,rfl,Yd,⟨#[],W.drawn⟩,(ZK W).symm⟩
 case round =>
  obtain⟨k,hk,rfl,hs,y,rfl⟩:=hrel;by_cases Zz:k<n
  ·obtain⟨a,ha⟩:=Z6 l k (by rw[ZJ.out];exact Zz)
   obtain⟨pa,rfl,hc⟩:=ZR.out k a ha;have q1:=Yu.out k a ha;have ZB:(may k a&&ZU may (k+1) (l.drop (k+1)))=R:=by rw[←WK may l k a ha];exact hs.out
   obtain⟨Z,hZ⟩:=Zv (may k a);rw[hZ]at q1 ZB;obtain⟨a0p,a0n,a0c,a1p,a1n,a1c,a2p,a2n,a2c,a3,a4p,a4n,a4c,ea⟩:=Xr.out a;rw[ea]at q1;have d0:=fun y=>(hc.plus y).c0 _ (by rw[ea];rfl);have d1:=fun y=>(hc.plus y).cs 0 _ (by rw[ea];rfl);have d2:=fun y=>(hc.plus y).cs 1 _ (by rw[ea];rfl);have d3:=fun y=>(hc.plus y).cs 2 _ (by rw[ea];rfl);have d4:=fun y=>(hc.plus y).cs 3 _ (by rw[ea];rfl);have q1':=Zg q1;have a6:=Zg (Yo k n Zz ZX.out);clear q1 hZ hc ha hs ea;cases Z with
   | true =>
    have ZD:=Zg (show ZU may (k+1) (l.drop (k+1))=R by rw[←ZB,Ze]);clear ZB;go_wp2_with (refine XV q1'.out ?_;rintro e w' ⟨rfl,x,rfl⟩);go_roundw
    case rel=>exact⟨k+1,Zz,congrArg (Zt .i64) a6.out,ZD,x,rfl⟩
    case measure=>exact YF k n Zz a6.out
   | false =>
    have ZD:=Zg (show false=R by rw[←ZB,Bool.false_and]);clear ZB;go_wp2_with (refine XV q1'.out ?_;rintro e w' ⟨rfl,x,rfl⟩);go_ret;exact⟨congrArg (fun z=>Zf (Zs z)) ZD.out,x,rfl⟩
  ·obtain rfl:k=n:=by omega
   have ZD:=Zg (show true=R by
    rw[←hs.out,Zh (by rw[ZJ.out];exact Zp _)];rfl)
   clear hs Zz hk;go_wp2;go_ret;exact⟨congrArg (fun z=>Zf (Zs z)) ZD.out,y,rfl⟩
theorem MM{α:Type}(cells:α→List Value)(hC:∀x,OQ (cells x))(may:Nat→α→Bool)(g:FuncId)(first caps:Array Value)(K:α→Prop)(w:World)(A:Sl α)(lo hi)(hA:A.In w 2 cells K)(hl:A.l.length≤1048576)(Wb:∀args w,(callFunc g args).run Zr w=.ok (.enter g args) w)(hf:∀(i:Nat) (x:α),A.l[i]?=some x→Kp Zr w g (first++(#[.int .i64 (i:Int),.agg (cells x).toArray]++caps)) (.bool (may i x))) :
  Kp Zr w 81 #[A.v,.int .i64 lo,.int .i64 hi,.func (.func g) first caps] (.bool (ZM lo hi may A.l)):=by
 intro y0;obtain⟨p,cap,l⟩:=A;simp only[Sl.v]at hl hf ⊢;obtain⟨n,hn⟩:=Zv l.length;have hA:=hA.row.plus y0;have hf:=fun i x hx=>((hf i x hx).up y0).pure;obtain⟨W,hW⟩:=Zv (plus w y0);rw[hW]at hA ⊢;simp only[hW]at hf;rw[hn]at hl;clear hW;by_cases h1:(n:Int)<lo
 case pos =>
  have hF:=Zg (show false=ZM lo hi may l by unfold ZM;rw[hn,decide_eq_false (show ¬lo≤(n:Int) by omega)];rfl);rw[hn];clear hA hl hn hf;go_enter func81,ntmps81;go_wp2;go_ret;exact⟨congrArg (fun z=>Zf (Zs z)) hF.out,_,(ZK W).symm⟩
 by_cases h2:hi<(n:Int)
 case pos =>
  have hF:=Zg (show false=ZM lo hi may l by unfold ZM;rw[hn,decide_eq_false (show ¬(n:Int)≤hi by omega)];simp);rw[hn];clear hA hl hn hf;go_enter func81,ntmps81;go_wp2;go_ret;exact⟨congrArg (fun z=>Zf (Zs z)) hF.out,_,(ZK W).symm⟩
 obtain⟨R,hR⟩:=Zv (ZM lo hi may l);have h0:ZU may 0 (l.drop 0)=R:=by rw[←hR];unfold ZM;rw[hn,decide_eq_true (show lo≤(n:Int) by omega),decide_eq_true (show (n:Int)≤hi by omega)];rfl
 rw[hn,hR];have ZR:=Zg hA;have ZJ:=Zg hn;have ZX:=Zg hl;have Yd:=Zg h0;have Yu:=Zg hf;have Xr:=Zg hC;clear hA hl hn hR h0 hf hC;go_enter func81,ntmps81;go_wp2;go_loopw [9,10,23] (fun _ _ iv wr=>∃k:Nat,k≤n∧iv=.int .i64 (k:Int)∧Hid (ZU may k (l.drop k)=R)∧∃y,wr=plus W y) (fun _ _ iv _=>n-(intOf iv).toNat)
 case atStart=>exact⟨0,Zq _,rfl,Yd,⟨#[],W.drawn⟩,(ZK W).symm⟩
 case round =>
  obtain⟨k,hk,rfl,hs,y,rfl⟩:=hrel;by_cases Zz:k<n
  ·obtain⟨a,ha⟩:=Z6 l k (by rw[ZJ.out];exact Zz)
   obtain⟨pa,rfl,hc⟩:=ZR.out k a ha;have q1:=Yu.out k a ha;have ZB:(may k a&&ZU may (k+1) (l.drop (k+1)))=R:=by rw[←WK may l k a ha];exact hs.out
   obtain⟨Z,hZ⟩:=Zv (may k a);rw[hZ]at q1 ZB;obtain⟨a0p,a0n,a0c,a1,ea⟩:=Xr.out a;rw[ea]at q1;have d0:=fun y=>(hc.plus y).c0 _ (by rw[ea];rfl);have d1:=fun y=>(hc.plus y).cs 0 _ (by rw[ea];rfl);have q1':=Zg q1;have a6:=Zg (Yo k n Zz ZX.out);clear q1 hZ hc ha hs ea;cases Z with
   | true =>
    have ZD:=Zg (show ZU may (k+1) (l.drop (k+1))=R by rw[←ZB,Ze]);clear ZB;go_wp2_with (refine XV q1'.out ?_;rintro e w' ⟨rfl,x,rfl⟩);go_roundw
    case rel=>exact⟨k+1,Zz,congrArg (Zt .i64) a6.out,ZD,x,rfl⟩
    case measure=>exact YF k n Zz a6.out
   | false =>
    have ZD:=Zg (show false=R by rw[←ZB,Bool.false_and]);clear ZB;go_wp2_with (refine XV q1'.out ?_;rintro e w' ⟨rfl,x,rfl⟩);go_ret;exact⟨congrArg (fun z=>Zf (Zs z)) ZD.out,x,rfl⟩
  ·obtain rfl:k=n:=by omega
   have ZD:=Zg (show true=R by
    rw[←hs.out,Zh (by rw[ZJ.out];exact Zp _)];rfl)
   clear hs Zz hk;go_wp2;go_ret;exact⟨congrArg (fun z=>Zf (Zs z)) ZD.out,y,rfl⟩
theorem MP{α:Type}(cells:α→List Value)(hC:∀x,OT (cells x))(may:Nat→α→Bool)(g:FuncId)(first caps:Array Value)(K:α→Prop)(w:World)(A:Sl α)(lo hi)(hA:A.In w 4 cells K)(hl:A.l.length≤1048576)(Wb:∀args w,(callFunc g args).run Zr w=.ok (.enter g args) w)(hf:∀(i:Nat) (x:α),A.l[i]?=some x→Kp Zr w g (first++(#[.int .i64 (i:Int),.agg (cells x).toArray]++caps)) (.bool (may i x))) :
  Kp Zr w 83 #[A.v,.int .i64 lo,.int .i64 hi,.func (.func g) first caps] (.bool (ZM lo hi may A.l)):=by
 intro y0;obtain⟨p,cap,l⟩:=A;simp only[Sl.v]at hl hf ⊢;obtain⟨n,hn⟩:=Zv l.length;have hA:=hA.row.plus y0;have hf:=fun i x hx=>((hf i x hx).up y0).pure;obtain⟨W,hW⟩:=Zv (plus w y0);rw[hW]at hA ⊢;simp only[hW]at hf;rw[hn]at hl;clear hW;by_cases h1:(n:Int)<lo
 case pos =>
  have hF:=Zg (show false=ZM lo hi may l by unfold ZM;rw[hn,decide_eq_false (show ¬lo≤(n:Int) by omega)];rfl);rw[hn];clear hA hl hn hf;go_enter func83,ntmps83;go_wp2;go_ret;exact⟨congrArg (fun z=>Zf (Zs z)) hF.out,_,(ZK W).symm⟩
 by_cases h2:hi<(n:Int)
 case pos =>
  have hF:=Zg (show false=ZM lo hi may l by unfold ZM;rw[hn,decide_eq_false (show ¬(n:Int)≤hi by omega)];simp);rw[hn];clear hA hl hn hf;go_enter func83,ntmps83;go_wp2;go_ret;exact⟨congrArg (fun z=>Zf (Zs z)) hF.out,_,(ZK W).symm⟩
 obtain⟨R,hR⟩:=Zv (ZM lo hi may l);have h0:ZU may 0 (l.drop 0)=R:=by rw[←hR];unfold ZM;rw[hn,decide_eq_true (show lo≤(n:Int) by omega),decide_eq_true (show (n:Int)≤hi by omega)];rfl
 rw[hn,hR];have ZR:=Zg hA;have ZJ:=Zg hn;have ZX:=Zg hl;have Yd:=Zg h0;have Yu:=Zg hf;have Xr:=Zg hC;clear hA hl hn hR h0 hf hC;go_enter func83,ntmps83;go_wp2;go_loopw [9,10,23] (fun _ _ iv wr=>∃k:Nat,k≤n∧iv=.int .i64 (k:Int)∧Hid (ZU may k (l.drop k)=R)∧∃y,wr=plus W y) (fun _ _ iv _=>n-(intOf iv).toNat)
 case atStart=>exact⟨0,Zq _,rfl,Yd,⟨#[],W.drawn⟩,(ZK W).symm⟩
 case round =>
  obtain⟨k,hk,rfl,hs,y,rfl⟩:=hrel;by_cases Zz:k<n
  ·obtain⟨a,ha⟩:=Z6 l k (by rw[ZJ.out];exact Zz)
   obtain⟨pa,rfl,hc⟩:=ZR.out k a ha;have q1:=Yu.out k a ha;have ZB:(may k a&&ZU may (k+1) (l.drop (k+1)))=R:=by rw[←WK may l k a ha];exact hs.out
   obtain⟨Z,hZ⟩:=Zv (may k a);rw[hZ]at q1 ZB;obtain⟨a0,a1,a2,a3,ea⟩:=Xr.out a;rw[ea]at q1;have d0:=fun y=>(hc.plus y).c0 _ (by rw[ea];rfl);have d1:=fun y=>(hc.plus y).cs 0 _ (by rw[ea];rfl);have d2:=fun y=>(hc.plus y).cs 1 _ (by rw[ea];rfl);have d3:=fun y=>(hc.plus y).cs 2 _ (by rw[ea];rfl);have q1':=Zg q1;have a6:=Zg (Yo k n Zz ZX.out);clear q1 hZ hc ha hs ea;cases Z with
   | true =>
    have ZD:=Zg (show ZU may (k+1) (l.drop (k+1))=R by rw[←ZB,Ze]);clear ZB;go_wp2_with (refine XV q1'.out ?_;rintro e w' ⟨rfl,x,rfl⟩);go_roundw
    case rel=>exact⟨k+1,Zz,congrArg (Zt .i64) a6.out,ZD,x,rfl⟩
    case measure=>exact YF k n Zz a6.out
   | false =>
    have ZD:=Zg (show false=R by rw[←ZB,Bool.false_and]);clear ZB;go_wp2_with (refine XV q1'.out ?_;rintro e w' ⟨rfl,x,rfl⟩);go_ret;exact⟨congrArg (fun z=>Zf (Zs z)) ZD.out,x,rfl⟩
  ·obtain rfl:k=n:=by omega
   have ZD:=Zg (show true=R by
    rw[←hs.out,Zh (by rw[ZJ.out];exact Zp _)];rfl)
   clear hs Zz hk;go_wp2;go_ret;exact⟨congrArg (fun z=>Zf (Zs z)) ZD.out,y,rfl⟩
theorem MN{α:Type}(cells:α→List Value)(hC:∀x,OS (cells x))(may:Nat→α→Bool)(g:FuncId)(first caps:Array Value)(K:α→Prop)(w:World)(A:Sl α)(lo hi)(hA:A.In w 5 cells K)(hl:A.l.length≤1048576)(Wb:∀args w,(callFunc g args).run Zr w=.ok (.enter g args) w)(hf:∀(i:Nat) (x:α),A.l[i]?=some x→Kp Zr w g (first++(#[.int .i64 (i:Int),.agg (cells x).toArray]++caps)) (.bool (may i x))) :
  Kp Zr w 93 #[A.v,.int .i64 lo,.int .i64 hi,.func (.func g) first caps] (.bool (ZM lo hi may A.l)):=by
 intro y0;obtain⟨p,cap,l⟩:=A;simp only[Sl.v]at hl hf ⊢;obtain⟨n,hn⟩:=Zv l.length;have hA:=hA.row.plus y0;have hf:=fun i x hx=>((hf i x hx).up y0).pure;obtain⟨W,hW⟩:=Zv (plus w y0);rw[hW]at hA ⊢;simp only[hW]at hf;rw[hn]at hl;clear hW;by_cases h1:(n:Int)<lo
 case pos =>
  have hF:=Zg (show false=ZM lo hi may l by unfold ZM;rw[hn,decide_eq_false (show ¬lo≤(n:Int) by omega)];rfl);rw[hn];clear hA hl hn hf;go_enter func93,ntmps93;go_wp2;go_ret;exact⟨congrArg (fun z=>Zf (Zs z)) hF.out,_,(ZK W).symm⟩
 by_cases h2:hi<(n:Int)
 case pos =>
  have hF:=Zg (show false=ZM lo hi may l by unfold ZM;rw[hn,decide_eq_false (show ¬(n:Int)≤hi by omega)];simp);rw[hn];clear hA hl hn hf;go_enter func93,ntmps93;go_wp2;go_ret;exact⟨congrArg (fun z=>Zf (Zs z)) hF.out,_,(ZK W).symm⟩
 obtain⟨R,hR⟩:=Zv (ZM lo hi may l);have h0:ZU may 0 (l.drop 0)=R:=by rw[←hR];unfold ZM;rw[hn,decide_eq_true (show lo≤(n:Int) by omega),decide_eq_true (show (n:Int)≤hi by omega)];rfl
 rw[hn,hR];have ZR:=Zg hA;have ZJ:=Zg hn;have ZX:=Zg hl;have Yd:=Zg h0;have Yu:=Zg hf;have Xr:=Zg hC;clear hA hl hn hR h0 hf hC;go_enter func93,ntmps93;go_wp2;go_loopw [9,10,23] (fun _ _ iv wr=>∃k:Nat,k≤n∧iv=.int .i64 (k:Int)∧Hid (ZU may k (l.drop k)=R)∧∃y,wr=plus W y) (fun _ _ iv _=>n-(intOf iv).toNat)
 case atStart=>exact⟨0,Zq _,rfl,Yd,⟨#[],W.drawn⟩,(ZK W).symm⟩
 case round =>
  obtain⟨k,hk,rfl,hs,y,rfl⟩:=hrel;by_cases Zz:k<n
  ·obtain⟨a,ha⟩:=Z6 l k (by rw[ZJ.out];exact Zz)
   obtain⟨pa,rfl,hc⟩:=ZR.out k a ha;have q1:=Yu.out k a ha;have ZB:(may k a&&ZU may (k+1) (l.drop (k+1)))=R:=by rw[←WK may l k a ha];exact hs.out
   obtain⟨Z,hZ⟩:=Zv (may k a);rw[hZ]at q1 ZB;obtain⟨a0,a1,a2,a3p,a3n,a3c,a4,ea⟩:=Xr.out a;rw[ea]at q1;have d0:=fun y=>(hc.plus y).c0 _ (by rw[ea];rfl);have d1:=fun y=>(hc.plus y).cs 0 _ (by rw[ea];rfl);have d2:=fun y=>(hc.plus y).cs 1 _ (by rw[ea];rfl);have d3:=fun y=>(hc.plus y).cs 2 _ (by rw[ea];rfl);have d4:=fun y=>(hc.plus y).cs 3 _ (by rw[ea];rfl);have q1':=Zg q1;have a6:=Zg (Yo k n Zz ZX.out);clear q1 hZ hc ha hs ea;cases Z with
   | true =>
    have ZD:=Zg (show ZU may (k+1) (l.drop (k+1))=R by rw[←ZB,Ze]);clear ZB;go_wp2_with (refine XV q1'.out ?_;rintro e w' ⟨rfl,x,rfl⟩);go_roundw
    case rel=>exact⟨k+1,Zz,congrArg (Zt .i64) a6.out,ZD,x,rfl⟩
    case measure=>exact YF k n Zz a6.out
   | false =>
    have ZD:=Zg (show false=R by rw[←ZB,Bool.false_and]);clear ZB;go_wp2_with (refine XV q1'.out ?_;rintro e w' ⟨rfl,x,rfl⟩);go_ret;exact⟨congrArg (fun z=>Zf (Zs z)) ZD.out,x,rfl⟩
  ·obtain rfl:k=n:=by omega
   have ZD:=Zg (show true=R by
    rw[←hs.out,Zh (by rw[ZJ.out];exact Zp _)];rfl)
   clear hs Zz hk;go_wp2;go_ret;exact⟨congrArg (fun z=>Zf (Zs z)) ZD.out,y,rfl⟩
theorem Jt(q0p q0n q0c q1p q1n q1c q2p q2n q2c q3p q3n q3c q4p q4n q4c q5p q5n q5c q6p q6n q6c q7p q7n q7c q8p q8n q8c q9p q9n q9c q10p q10n q10c q11p q11n q11c)(mr:Nat)(act ia ib ep en ec it)(kd:Int)(w)(n1:¬kd=1)(n2:¬kd=2)(n3:¬kd=3)(n4:¬kd=4)(n5:¬kd=5)(n6:¬kd=6)(n7:¬kd=7)(n8:¬kd=8) :
  Kp Zr w 95 #[.agg #[.slice q0p q0n q0c,.slice q1p q1n q1c,.slice q2p q2n q2c,.slice q3p q3n q3c,.slice q4p q4n q4c,.slice q5p q5n q5c,.slice q6p q6n q6c,.slice q7p q7n q7c,.slice q8p q8n q8c,.slice q9p q9n q9c,.slice q10p q10n q10c,.slice q11p q11n q11c,.map (some mr)],.int .i64 act,.agg #[.int .u8 kd,.int .i64 ia,.int .i64 ib,.slice ep en ec,.int .i64 it]] (.bool (false)):=by
 intro y0;have m1:decide (kd=1)=false:=decide_eq_false n1;have m2:decide (kd=2)=false:=decide_eq_false n2;have m3:decide (kd=3)=false:=decide_eq_false n3;have m4:decide (kd=4)=false:=decide_eq_false n4;have m5:decide (kd=5)=false:=decide_eq_false n5;have m6:decide (kd=6)=false:=decide_eq_false n6;have m7:decide (kd=7)=false:=decide_eq_false n7;have m8:decide (kd=8)=false:=decide_eq_false n8;obtain⟨V,hV⟩:=Zv (plus w y0);rw[hV]at ⊢;clear hV;obtain⟨R,hR⟩:=Zv (false);rw[hR];have hF:=Zg (show (false)=R by first|exact hR|(rw[←hR];simp));clear hR;go_enter func95,ntmps95;go_wp2_with fail;go_ret;exact⟨congrArg (fun z=>Zf (Zs z)) hF.out,XK _ _ _⟩
theorem JW(q0p q0n q0c q1p q1n q1c q2p q2n q2c q3p q3n q3c q4p q4n q4c q5p q5n q5c q6p q6n q6c q7p q7n q7c q8p q8n q8c q9p q9n q9c q10p q10n q10c q11p q11n q11c)(mr:Nat)(act ia ib ep en ec it)(kd:Int)(w)(n1:¬kd=1)(n2:¬kd=2)(n5:¬kd=5)(n7:¬kd=7) :
  Kp Zr w 97 #[.agg #[.slice q0p q0n q0c,.slice q1p q1n q1c,.slice q2p q2n q2c,.slice q3p q3n q3c,.slice q4p q4n q4c,.slice q5p q5n q5c,.slice q6p q6n q6c,.slice q7p q7n q7c,.slice q8p q8n q8c,.slice q9p q9n q9c,.slice q10p q10n q10c,.slice q11p q11n q11c,.map (some mr)],.int .i64 act,.agg #[.int .u8 kd,.int .i64 ia,.int .i64 ib,.slice ep en ec,.int .i64 it]] (.bool ((en:Int)==0)):=by
 intro y0;have m1:decide (kd=1)=false:=decide_eq_false n1;have m2:decide (kd=2)=false:=decide_eq_false n2;have m5:decide (kd=5)=false:=decide_eq_false n5;have m7:decide (kd=7)=false:=decide_eq_false n7;obtain⟨V,hV⟩:=Zv (plus w y0);rw[hV]at ⊢;clear hV;obtain⟨R,hR⟩:=Zv ((en:Int)==0);rw[hR];by_cases q1:((en:Int)==0)=true
 case neg =>
  have q1:((en:Int)==0)=false:=by simpa using q1
  have hF:=Zg (show (false)=R by first|exact hR|(rw[←hR];simp[q1]));clear hR;go_enter func97,ntmps97;go_wp2_with fail;go_ret;exact⟨congrArg (fun z=>Zf (Zs z)) hF.out,XK _ _ _⟩
 case pos =>
  have hF:=Zg (show (true)=R by first|exact hR|(rw[←hR];simp[q1]));clear hR;go_enter func97,ntmps97;go_wp2_with fail;go_ret;exact⟨congrArg (fun z=>Zf (Zs z)) hF.out,XK _ _ _⟩
theorem JY(q0p q0n q0c)(q1n q1c:Nat)(q2p q2n q2c q3p q3n q3c q4p q4n q4c q5p q5n q5c q6p q6n q6c q7p q7n q7c q8p q8n q8c q9p q9n q9c q10p q10n q10c q11p q11n q11c)(mr:Nat)(act ib ep en ec it r x s0)(ma:Addr)(k:Nat)(w:World)(hk:k<q1n)(hd:ZG w (ma.add k) [.int .i64 x])(h0:Kp Zr w 16 #[.agg #[.slice q0p q0n q0c,.slice (some ma) q1n q1c,.slice q2p q2n q2c,.slice q3p q3n q3c,.slice q4p q4n q4c,.slice q5p q5n q5c,.slice q6p q6n q6c,.slice q7p q7n q7c,.slice q8p q8n q8c,.slice q9p q9n q9c,.slice q10p q10n q10c,.slice q11p q11n q11c,.map (some mr)],.int .i64 act,.slice ep en ec] (.tuple #[.int .i64 r,.bool s0])) :
  Kp Zr w 97 #[.agg #[.slice q0p q0n q0c,.slice (some ma) q1n q1c,.slice q2p q2n q2c,.slice q3p q3n q3c,.slice q4p q4n q4c,.slice q5p q5n q5c,.slice q6p q6n q6c,.slice q7p q7n q7c,.slice q8p q8n q8c,.slice q9p q9n q9c,.slice q10p q10n q10c,.slice q11p q11n q11c,.map (some mr)],.int .i64 act,.agg #[.int .u8 2,.int .i64 (k:Int),.int .i64 ib,.slice ep en ec,.int .i64 it]] (.bool (s0&&(r==x))):=by
 intro y0;have h0:=h0.up y0;have hd:=hd.plus y0;have k0:¬((k:Int)<0):=by omega
 have k1:(k:Int)<(q1n:Int):=by omega
 obtain⟨V,hV⟩:=Zv (plus w y0);rw[hV]at h0 hd ⊢;clear hV;have d0:∀o o',((V.alloc o).alloc o').cell? (ma.add k)=some (.int .i64 x):=fun o o'=>((((Zc V.heap.size V).alloc (Zp _) o).alloc (by simp) o').cell (SZ (hd.c0 _ rfl))).trans (hd.c0 _ rfl);clear hd;obtain⟨R,hR⟩:=Zv (s0&&(r==x));rw[hR];by_cases q1:(s0)=true
 case neg =>
  have q1:(s0)=false:=by simpa using q1
  have hF:=Zg (show (false)=R by first|exact hR|(rw[←hR];simp[q1]));clear hR;have h0:=Zg h0;go_enter func97,ntmps97;go_wp2_with fail;obtain⟨W,yy,hW,⟨z,hz⟩,cb0,cb1⟩:=ZF V _ _ 82 99;rw[hW];have c0_0:=cb0 0 _ rfl;have c0_1:=cb0 1 _ rfl;have c0_2:=cb0 2 _ rfl;have c0_3:=cb0 3 _ rfl;have c0_4:=cb0 4 _ rfl;have c0_5:=cb0 5 _ rfl;have c0_6:=cb0 6 _ rfl;have c0_7:=cb0 7 _ rfl;have c0_8:=cb0 8 _ rfl;have c0_9:=cb0 9 _ rfl;have c0_10:=cb0 10 _ rfl;have c0_11:=cb0 11 _ rfl;have c0_12:=cb0 12 _ rfl;have c1_0:=cb1 0 _ rfl;have c1_1:=cb1 1 _ rfl;have c1_2:=cb1 2 _ rfl;have c1_3:=cb1 3 _ rfl;have c1_4:=cb1 4 _ rfl;have q0c:=Zg (Zy hz h0.out);have Zw:=Zg hz;clear hW hz cb0 cb1;refine (q0c.out _).mono ?_;rintro r w' ⟨rfl,x1,rfl⟩;go_wp2_with fail;go_ret;exact⟨congrArg (fun z=>Zf (Zs z)) hF.out,by rw[Zw.out,Zx];exact⟨_,rfl⟩⟩
 case pos =>
  by_cases q2:(r==x)=true
  case neg =>
   have q2:(r==x)=false:=by simpa using q2
   have hF:=Zg (show (false)=R by first|exact hR|(rw[←hR];simp[q1,q2]));clear hR;have h0:=Zg h0;go_enter func97,ntmps97;go_wp2_with fail;obtain⟨W,yy,hW,⟨z,hz⟩,cb0,cb1⟩:=ZF V _ _ 82 99;rw[hW];have c0_0:=cb0 0 _ rfl;have c0_1:=cb0 1 _ rfl;have c0_2:=cb0 2 _ rfl;have c0_3:=cb0 3 _ rfl;have c0_4:=cb0 4 _ rfl;have c0_5:=cb0 5 _ rfl;have c0_6:=cb0 6 _ rfl;have c0_7:=cb0 7 _ rfl;have c0_8:=cb0 8 _ rfl;have c0_9:=cb0 9 _ rfl;have c0_10:=cb0 10 _ rfl;have c0_11:=cb0 11 _ rfl;have c0_12:=cb0 12 _ rfl;have c1_0:=cb1 0 _ rfl;have c1_1:=cb1 1 _ rfl;have c1_2:=cb1 2 _ rfl;have c1_3:=cb1 3 _ rfl;have c1_4:=cb1 4 _ rfl;have q0c:=Zg (Zy hz h0.out);have Zw:=Zg hz;clear hW hz cb0 cb1;refine (q0c.out _).mono ?_;rintro r w' ⟨rfl,x1,rfl⟩;go_wp2_with fail;go_ret;exact⟨congrArg (fun z=>Zf (Zs z)) hF.out,by rw[Zw.out,Zx];exact⟨_,rfl⟩⟩
  case pos =>
   have hF:=Zg (show (true)=R by first|exact hR|(rw[←hR];simp[q1,q2]));clear hR;have h0:=Zg h0;go_enter func97,ntmps97;go_wp2_with fail;obtain⟨W,yy,hW,⟨z,hz⟩,cb0,cb1⟩:=ZF V _ _ 82 99;rw[hW];have c0_0:=cb0 0 _ rfl;have c0_1:=cb0 1 _ rfl;have c0_2:=cb0 2 _ rfl;have c0_3:=cb0 3 _ rfl;have c0_4:=cb0 4 _ rfl;have c0_5:=cb0 5 _ rfl;have c0_6:=cb0 6 _ rfl;have c0_7:=cb0 7 _ rfl;have c0_8:=cb0 8 _ rfl;have c0_9:=cb0 9 _ rfl;have c0_10:=cb0 10 _ rfl;have c0_11:=cb0 11 _ rfl;have c0_12:=cb0 12 _ rfl;have c1_0:=cb1 0 _ rfl;have c1_1:=cb1 1 _ rfl;have c1_2:=cb1 2 _ rfl;have c1_3:=cb1 3 _ rfl;have c1_4:=cb1 4 _ rfl;have q0c:=Zg (Zy hz h0.out);have Zw:=Zg hz;clear hW hz cb0 cb1;refine (q0c.out _).mono ?_;rintro r w' ⟨rfl,x1,rfl⟩;go_wp2_with fail;go_ret;exact⟨congrArg (fun z=>Zf (Zs z)) hF.out,by rw[Zw.out,Zx];exact⟨_,rfl⟩⟩
theorem JX(q0n q0c:Nat)(q1p q1n q1c q2p q2n q2c q3p q3n q3c q4p q4n q4c q5p q5n q5c q6p q6n q6c q7p q7n q7c q8p q8n q8c q9p q9n q9c q10p q10n q10c q11p q11n q11c)(mr:Nat)(act ep en ec it r x s0)(ha fa:Addr)(k j fn fc:Nat)(w:World)(hk:k<q0n)(hj:j<fn)(hd:ZG w (ha.add k) [.slice (some fa) fn fc])(he:ZG w (fa.add j) [.int .i64 x])(h0:Kp Zr w 16 #[.agg #[.slice (some ha) q0n q0c,.slice q1p q1n q1c,.slice q2p q2n q2c,.slice q3p q3n q3c,.slice q4p q4n q4c,.slice q5p q5n q5c,.slice q6p q6n q6c,.slice q7p q7n q7c,.slice q8p q8n q8c,.slice q9p q9n q9c,.slice q10p q10n q10c,.slice q11p q11n q11c,.map (some mr)],.int .i64 act,.slice ep en ec] (.tuple #[.int .i64 r,.bool s0])) :
  Kp Zr w 97 #[.agg #[.slice (some ha) q0n q0c,.slice q1p q1n q1c,.slice q2p q2n q2c,.slice q3p q3n q3c,.slice q4p q4n q4c,.slice q5p q5n q5c,.slice q6p q6n q6c,.slice q7p q7n q7c,.slice q8p q8n q8c,.slice q9p q9n q9c,.slice q10p q10n q10c,.slice q11p q11n q11c,.map (some mr)],.int .i64 act,.agg #[.int .u8 1,.int .i64 (k:Int),.int .i64 (j:Int),.slice ep en ec,.int .i64 it]] (.bool (s0&&(r==x))):=by
 intro y0;have h0:=h0.up y0;have hd:=hd.plus y0;have he:=he.plus y0;have k0:¬((k:Int)<0):=by omega
 have k1:(k:Int)<(q0n:Int):=by omega
 have j0:¬((j:Int)<0):=by omega
 have j1:(j:Int)<(fn:Int):=by omega
 obtain⟨V,hV⟩:=Zv (plus w y0);rw[hV]at h0 hd he ⊢;clear hV;obtain⟨R,hR⟩:=Zv (s0&&(r==x));rw[hR];by_cases q1:(s0)=true
 case neg =>
  have q1:(s0)=false:=by simpa using q1
  have hF:=Zg (show (false)=R by first|exact hR|(rw[←hR];simp[q1]));clear hR;have h0:=Zg h0;go_enter func97,ntmps97;go_wp2;obtain⟨W,yy,hW,⟨z,hz⟩,cb0,cb1⟩:=ZF V _ _ 82 99;rw[hW];have c0_0:=cb0 0 _ rfl;have c0_1:=cb0 1 _ rfl;have c0_2:=cb0 2 _ rfl;have c0_3:=cb0 3 _ rfl;have c0_4:=cb0 4 _ rfl;have c0_5:=cb0 5 _ rfl;have c0_6:=cb0 6 _ rfl;have c0_7:=cb0 7 _ rfl;have c0_8:=cb0 8 _ rfl;have c0_9:=cb0 9 _ rfl;have c0_10:=cb0 10 _ rfl;have c0_11:=cb0 11 _ rfl;have c0_12:=cb0 12 _ rfl;have c1_0:=cb1 0 _ rfl;have c1_1:=cb1 1 _ rfl;have c1_2:=cb1 2 _ rfl;have c1_3:=cb1 3 _ rfl;have c1_4:=cb1 4 _ rfl;have q0w:=Zg (Zy hz h0.out);have d0:∀y,(Go.Proofs.YtheaknidbcbneaaGreat.plus W y).cell? (ha.add k)=some (.slice (some fa) fn fc):=fun y=>by rw[hz];exact ((hd.plus z).plus y).c0 _ rfl
  have d1:∀y,(Go.Proofs.YtheaknidbcbneaaGreat.plus W y).cell? (fa.add j)=some (.int .i64 x):=fun y=>by rw[hz];exact ((he.plus z).plus y).c0 _ rfl
  clear hd he;have Zw:=Zg hz;clear hW hz cb0 cb1;refine ZP (by kernel_rfl) (by kernel_rfl) ?_;repeat (go_big_quiet_step (first|(with_reducible exact q0w.out _)))
  refine wpQuiet_nil ?_;rintro _ ⟨y1,rfl⟩;go_wp2_with fail;refine (q0w.out _).mono ?_;rintro r w' ⟨rfl,x1,rfl⟩;go_wp2_with fail;go_ret;exact⟨congrArg (fun z=>Zf (Zs z)) hF.out,by rw[Zw.out,Zx];exact⟨_,rfl⟩⟩
 case pos =>
  by_cases q2:(r==x)=true
  case neg =>
   have q2:(r==x)=false:=by simpa using q2
   have hF:=Zg (show (false)=R by first|exact hR|(rw[←hR];simp[q1,q2]));clear hR;have h0:=Zg h0;go_enter func97,ntmps97;go_wp2;obtain⟨W,yy,hW,⟨z,hz⟩,cb0,cb1⟩:=ZF V _ _ 82 99;rw[hW];have c0_0:=cb0 0 _ rfl;have c0_1:=cb0 1 _ rfl;have c0_2:=cb0 2 _ rfl;have c0_3:=cb0 3 _ rfl;have c0_4:=cb0 4 _ rfl;have c0_5:=cb0 5 _ rfl;have c0_6:=cb0 6 _ rfl;have c0_7:=cb0 7 _ rfl;have c0_8:=cb0 8 _ rfl;have c0_9:=cb0 9 _ rfl;have c0_10:=cb0 10 _ rfl;have c0_11:=cb0 11 _ rfl;have c0_12:=cb0 12 _ rfl;have c1_0:=cb1 0 _ rfl;have c1_1:=cb1 1 _ rfl;have c1_2:=cb1 2 _ rfl;have c1_3:=cb1 3 _ rfl;have c1_4:=cb1 4 _ rfl;have q0w:=Zg (Zy hz h0.out);have d0:∀y,(Go.Proofs.YtheaknidbcbneaaGreat.plus W y).cell? (ha.add k)=some (.slice (some fa) fn fc):=fun y=>by rw[hz];exact ((hd.plus z).plus y).c0 _ rfl
   have d1:∀y,(Go.Proofs.YtheaknidbcbneaaGreat.plus W y).cell? (fa.add j)=some (.int .i64 x):=fun y=>by rw[hz];exact ((he.plus z).plus y).c0 _ rfl
   clear hd he;have Zw:=Zg hz;clear hW hz cb0 cb1;refine ZP (by kernel_rfl) (by kernel_rfl) ?_;repeat (go_big_quiet_step (first|(with_reducible exact q0w.out _)))
   refine wpQuiet_nil ?_;rintro _ ⟨y1,rfl⟩;go_wp2_with fail;refine (q0w.out _).mono ?_;rintro r w' ⟨rfl,x1,rfl⟩;go_wp2_with fail;go_ret;exact⟨congrArg (fun z=>Zf (Zs z)) hF.out,by rw[Zw.out,Zx];exact⟨_,rfl⟩⟩
  case pos =>
   have hF:=Zg (show (true)=R by first|exact hR|(rw[←hR];simp[q1,q2]));clear hR;have h0:=Zg h0;go_enter func97,ntmps97;go_wp2;obtain⟨W,yy,hW,⟨z,hz⟩,cb0,cb1⟩:=ZF V _ _ 82 99;rw[hW];have c0_0:=cb0 0 _ rfl;have c0_1:=cb0 1 _ rfl;have c0_2:=cb0 2 _ rfl;have c0_3:=cb0 3 _ rfl;have c0_4:=cb0 4 _ rfl;have c0_5:=cb0 5 _ rfl;have c0_6:=cb0 6 _ rfl;have c0_7:=cb0 7 _ rfl;have c0_8:=cb0 8 _ rfl;have c0_9:=cb0 9 _ rfl;have c0_10:=cb0 10 _ rfl;have c0_11:=cb0 11 _ rfl;have c0_12:=cb0 12 _ rfl;have c1_0:=cb1 0 _ rfl;have c1_1:=cb1 1 _ rfl;have c1_2:=cb1 2 _ rfl;have c1_3:=cb1 3 _ rfl;have c1_4:=cb1 4 _ rfl;have q0w:=Zg (Zy hz h0.out);have d0:∀y,(Go.Proofs.YtheaknidbcbneaaGreat.plus W y).cell? (ha.add k)=some (.slice (some fa) fn fc):=fun y=>by rw[hz];exact ((hd.plus z).plus y).c0 _ rfl
   have d1:∀y,(Go.Proofs.YtheaknidbcbneaaGreat.plus W y).cell? (fa.add j)=some (.int .i64 x):=fun y=>by rw[hz];exact ((he.plus z).plus y).c0 _ rfl
   clear hd he;have Zw:=Zg hz;clear hW hz cb0 cb1;refine ZP (by kernel_rfl) (by kernel_rfl) ?_;repeat (go_big_quiet_step (first|(with_reducible exact q0w.out _)))
   refine wpQuiet_nil ?_;rintro _ ⟨y1,rfl⟩;go_wp2_with fail;refine (q0w.out _).mono ?_;rintro r w' ⟨rfl,x1,rfl⟩;go_wp2_with fail;go_ret;exact⟨congrArg (fun z=>Zf (Zs z)) hF.out,by rw[Zw.out,Zx];exact⟨_,rfl⟩⟩
end Go.Proofs.YtheaknidbcbneaaGreat
