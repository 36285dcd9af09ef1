/-
  WHAT IS PROVED HERE: nothing: pieces of proofs that stand more than once, as default proofs of a proposition that is its own premise.
-/
import Derived.Below
import Derived.BigQuiet
import Derived.BigRegion
import Derived.Carry
import Derived.ChangeSame
import Derived.Deep.AppendLies
import Derived.Deep.CutRange
import Derived.Deep.Fields
import Derived.Deep.MidRow
import Derived.Deep.RegionHeld3
import Derived.Deep.RegionLaw
import Derived.Deep.RegionWith
import Derived.Deep.Slices
import Derived.JoinedCond
import Derived.Laws.BitsAllLaws
import Derived.Laws.EntriesVeiled
import Derived.Laws.MakeOwn
import Derived.Laws.OwnMore
import Derived.Laws.Rows
import Derived.Lib.Hide
import Derived.Lib.IndexBytes
import Derived.Lib.Strings
import Derived.LoopIn
import Derived.LoopN
import Derived.LoopNIn
import Derived.MapKept
import Derived.OpenShut
import Derived.OrdersHeld
import Derived.OwnWalk
import Derived.OwnWalkIn
import Derived.ProofKit
import Derived.RangeFuncBound
import Derived.RangeFuncCalls
import Derived.RangeFuncLeaves
import Derived.RangeFuncNested
import Derived.Recover
import Derived.RegionDies
import Derived.Shelf.Abstract
import Derived.Shelf.Spec.BitsCarry
import Derived.StillTail
import Derived.TacticsInMore
import Derived.WalkKit
import Derived.WalkLawsBesides
import Derived.WalkSpells
import Derived.Test.YtknmeggfokpbjaaGreatRows
set_option maxRecDepth 100000
set_option maxHeartbeats 8000000
set_option linter.all false
namespace Go.Proofs.YtknmeggfokpbjaaGreat.Z
open Go.RowKit
variable {P:Prop}
def agp(h:P:=by
 clear hA hl hn hR h0 hf ;go_enter func107,ntmps107;go_wp2;go_loopw [5] (fun iv wr=>∃k:Nat,k≤n∧iv=.int .i64 (k:Int)∧Hid ((l.drop k).all may=R)∧∃y,wr=plus W y) (fun iv _=>n-(intOf iv).toNat)
 case atStart=>exact⟨0,Zw _,rfl,YM,⟨#[],W.drawn⟩,(Yk W).symm⟩
 case round =>
  obtain⟨k,hk,rfl,hs,y,rfl⟩:=hrel;by_cases ZC:k<n
  ·obtain⟨a,ha⟩:=Yq l k asG
   obtain⟨pa,rfl,hc⟩:=YV.out k a ha;have ZV:=Zo ha;have ZQ:(may a&&(l.drop (k+1)).all may)=R:=aum;have q1:=Wi.out a ZV;obtain⟨Z,hZ⟩:=ZB (may a);rw[hZ]at q1 ZQ;obtain⟨sk,sh,sn,⟨eop,⟨elw,elh,ell⟩,ehd,enm,eeh,eel,ep,ecap,eargs⟩,sp,scap,sthn,sq,scbp,sels⟩:=a;have q1:Wo Zx W 173 #[.agg #[.int .u8 sk,.string sh,.string sn,.int .u8 eop,.int .i64 elw,.int .u64 elh,.int .u64 ell,.string ehd,.string enm,.int .i64 eeh,.int .i64 eel,.slice ep eargs.length ecap,.slice sp sthn.length scap,.slice sq sels.length scbp],.int .i64 deep] (.bool Z):=q1;open Z renaming aqz→N6 in exact MI
  ·exact TF):P:=h
def agq(h:P:=by
 clear hA hl hn hR h0 hf;go_enter func200,ntmps200;go_wp2;go_loopw [5,6,9] (fun _ _ iv wr=>∃k:Nat,k≤n∧iv=.int .i64 (k:Int)∧Hid (YL may (l.drop k) k=R)∧∃y,wr=plus W y) (fun _ _ iv _=>n-(intOf iv).toNat)
 case atStart=>exact⟨0,Zw _,rfl,YM,⟨#[],W.drawn⟩,(Yk W).symm⟩
 case round =>
  obtain⟨k,hk,rfl,hs,y,rfl⟩:=hrel;by_cases ZC:k<n
  ·obtain⟨a,ha⟩:=Yq l k asG
   open Z renaming acD→Ox in exact OV
  ·exact OU):P:=h
def agr(h:P:=by
 clear hA hl hn hR h0 hf;go_enter func64,ntmps64;go_wp2;go_loopw [10,23] (fun _ iv wr=>∃k:Nat,k≤n∧iv=.int .i64 (k:Int)∧Hid ((l.drop k).all may=R)∧∃y,wr=plus W y) (fun _ iv _=>n-(intOf iv).toNat)
 case atStart=>exact⟨0,Zw _,rfl,YM,⟨#[],W.drawn⟩,(Yk W).symm⟩
 case round =>
  obtain⟨k,hk,rfl,hs,y,rfl⟩:=hrel;by_cases ZC:k<n
  ·obtain⟨a,ha⟩:=Yq l k asG
   open Z renaming ap1→Rl in exact Rv
  ·exact TF):P:=h
def ags(h:P:=by
 clear hA hl hn hR h0 hf ;go_enter func109,ntmps109;go_wp2;go_loopw [3] (fun iv wr=>∃k:Nat,k≤n∧iv=.int .i64 (k:Int)∧Hid ((l.drop k).all YK=R)∧∃y,wr=plus W y) (fun iv _=>n-(intOf iv).toNat)
 case atStart=>exact⟨0,Zw _,rfl,YM,⟨#[],W.drawn⟩,(Yk W).symm⟩
 case round =>
  obtain⟨k,hk,rfl,hs,y,rfl⟩:=hrel;by_cases ZC:k<n
  ·obtain⟨a,ha⟩:=Yq l k asG
   obtain⟨pa,rfl,hc⟩:=YV.out k a ha;have ZV:=Zo ha;have ZQ:(YK a&&(l.drop (k+1)).all YK)=R:=by rw[←U9 YK l k a ha];exact hs.out
   have a6:=Zf (Y7 k n ZC Yt.out);have q1:=Wi.out a ZV;obtain⟨Z,hZ⟩:=ZB (YK a);rw[hZ]at q1 ZQ;have d0:=fun y=>(hc.plus y).c0 _ rfl;simp only[Nat.mul_one]at d0;have q1':=Zf q1;clear q1 hZ hc ha hs ZV;cases Z with
   | true =>
    have ZP:=Zf (show (l.drop (k+1)).all YK=R by rw[←ZQ,Bool.true_and]);clear ZQ;go_wp2_with (go_at_call 104;refine (q1'.out _).mono ?_;rintro e w' ⟨rfl,x,rfl⟩);go_roundw
    case rel=>exact⟨k+1,ZC,congrArg (Zz .i64) a6.out,ZP,x,rfl⟩
    case measure=>exact Y9 k n ZC a6.out
   | false =>
    have ZP:=Zf (show false=R by rw[←ZQ,Bool.false_and]);clear ZQ;go_wp2_with (go_at_call 104;refine (q1'.out _).mono ?_;rintro e w' ⟨rfl,x,rfl⟩);go_ret;exact⟨congrArg (fun z=>Zd (Zy z)) ZP.out,x,rfl⟩
  ·exact TF):P:=h
def agt(h:P:=by
 clear hA hl hn hR h0 hf ;go_enter func171,ntmps171;go_wp2;go_loopw [3] (fun iv wr=>∃k:Nat,k≤n∧iv=.int .i64 (k:Int)∧Hid ((l.drop k).all may=R)∧∃y,wr=plus W y) (fun iv _=>n-(intOf iv).toNat)
 case atStart=>exact⟨0,Zw _,rfl,YM,⟨#[],W.drawn⟩,(Yk W).symm⟩
 case round =>
  obtain⟨k,hk,rfl,hs,y,rfl⟩:=hrel;by_cases ZC:k<n
  ·obtain⟨a,ha⟩:=Yq l k asG
   obtain⟨pa,rfl,hc⟩:=YV.out k a ha;have ZV:=Zo ha;have ZQ:(may a&&(l.drop (k+1)).all may)=R:=aum;have a6:=Zf (Y7 k n ZC Yt.out);have q1:=Wi.out a ZV;obtain⟨Z,hZ⟩:=ZB (may a);rw[hZ]at q1 ZQ;obtain⟨eop,⟨elw,elh,ell⟩,ehd,enm,eeh,eel,ep,ecap,eargs⟩:=a;have q1:Wo Zx W 174 #[.agg #[.int .u8 eop,.int .i64 elw,.int .u64 elh,.int .u64 ell,.string ehd,.string enm,.int .i64 eeh,.int .i64 eel,.slice ep eargs.length ecap]] (.bool Z):=q1;open Z renaming aqw→N6 in exact MI
  ·exact TF):P:=h
def agu(h:P:=by
 have YY:=Zf hC;clear hA hl hn hR h0 hf hC;exact RT):P:=h
def agv(h:P:=by
 have YY:=Zf hC;clear hA hl hn hR h0 hf hC;exact N9):P:=h
def L3(h:P:=by
 obtain⟨pa,rfl,We⟩:=XV.out i a ha;have hc:=JC (hw.trans hK) Vn.out We;have TC:=Ih m l i a ha;have a6:=Zf (Y7 i n ZC Yt.out);exact Li):P:=h
def agw(h:P:=by
 obtain⟨c0,c1p,c1n,c1c,ea⟩:=YY.out a;exact ue):P:=h
def agx(h:P:=by
 obtain⟨c0,c1,ea⟩:=YY.out a;exact ue):P:=h
def agy(h:P:=by
 open Z renaming ui→Jr in exact I7):P:=h
def agz(h:P:=by
 open Z renaming ID→A4 in exact tv):P:=h
def agA(h:P:=by
 open Z renaming ui→Jt in exact I8):P:=h
def L4(h:P:=by
 obtain⟨pa,rfl,We⟩:=XV.out i a ha;have hc:=Fk (hw.trans hK) Vn.out We;have TC:=Ih m l i a ha;have a6:=Zf (Y7 i n ZC Yt.out);exact Lj):P:=h
def agB(h:P:=by
 obtain⟨c0,c1p,c1n,c1c,ea⟩:=YY.out a;exact uS):P:=h
def agC(h:P:=by
 obtain⟨c0,c1,ea⟩:=YY.out a;exact uS):P:=h
def agD(h:P:=by
 open Z renaming uU→Jr in exact I7):P:=h
def agE(h:P:=by
 open Z renaming IT→A4 in exact tv):P:=h
def agF(h:P:=by
 open Z renaming uU→Jt in exact I8):P:=h
def Qa(h:P:=by
 have hF:=Zf (show (true)=R by first|exact hR|(rw[←hR];simp));exact RP):P:=h
def vJ(h:P:=by
 have d9:=fun y=>(hc.plus y).cs 8 _ rfl;have d10:=fun y=>(hc.plus y).cs 9 _ rfl;have d11:=fun y=>(hc.plus y).cs 10 _ rfl;have d12:=fun y=>(hc.plus y).cs 11 _ rfl;have d13:=fun y=>(hc.plus y).cs 12 _ rfl;simp only[St.kind,St.head,St.name,St.e,St.p,St.cap,St.thn,St.q,St.cbp,St.els,Ex.op,Ex.lit,Ex.head,Ex.name,Ex.hi,Ex.lo,Ex.p,Ex.cap,Ex.args]at d0 d1 d2 d3 d4 d5 d6 d7 d8 d9 d10 d11 d12 d13;exact Aa):P:=h
def agG(h:P:=by
 have q1:Wo Zx W 14 #[.agg #[.int .u8 eop,.int .i64 elw,.int .u64 elh,.int .u64 ell,.string ehd,.string enm,.int .i64 eeh,.int .i64 eel,.slice ep eargs.length ecap]] _:=q1;have hE:∃E,Ex.wt (.mk eop ⟨elw,elh,ell⟩ ehd enm eeh eel ep ecap eargs)=E:=⟨_,rfl⟩;obtain⟨E,hE⟩:=hE;rw[hE]at q1 YB;have hA:∃A,(thn.map St.sz).sum=A:=⟨_,rfl⟩;obtain⟨A,hA⟩:=hA;rw[hA]at q2 YB;have hB:∃B,(els.map St.sz).sum=B:=⟨_,rfl⟩;obtain⟨B,hB⟩:=hB;rw[hB]at q3 YB;have q1':=Zf q1;have q2':=Zf q2;have q3':=Zf q3;have a6:=Y7 k n ZC Yt.out;have hsz':=Zf YB;have a3':=Zf a3;have a4':=Zf a4;have b0':=Zf b0;clear hE hA hB a3 a4 hs hc he l1 l2 l3 l4 l5 l6 l7 l8 hS i1 i2 q1 q2 q3 YB ZV b0;go_wp2;refine Wz asC asC ?_;repeat (go_big_quiet_step (first|(with_reducible exact q1'.out _)|(with_reducible exact q2'.out _)|(with_reducible exact q3'.out _)))
 refine wpQuiet_nil ?_;rintro _ ⟨y1,rfl⟩;have a7:=abm (YT St.sz 0 l k) hd.size nm.size E A B (YT St.sz 0 l (k+1)) (by rw[a3'.out,hsz'.out]) (by have:=a4'.out;have:=ZR.out;have:=Yi.out;omega);have a7':=Zf a7;have a6':=Zf a6;clear a6 a7;go_wp2;go_roundw
 case rel=>exact⟨k+1,ZC,congrArg (Zz .i64) a6'.out,congrArg (Zz .i64) a7'.out,y1,rfl⟩
 case measure=>exact Y9 k n ZC a6'.out):P:=h
def agH(h:P:=by
 have q1':=Zf q1;clear q1 hZ hc ha hs ZV;cases Z with
 | true =>
  have ZP:=Zf (show (l.drop (k+1)).all may=R by rw[←ZQ,Bool.true_and]);clear ZQ;go_wp2_with (go_at_call 173;refine (q1'.out _).mono ?_;rintro e w' ⟨rfl,x,rfl⟩);go_roundw
  case rel=>exact⟨k+1,ZC,rfl,ZP,x,rfl⟩
  case measure=>exact Nat.sub_lt_sub_left ZC (Nat.lt_succ_self k)
 | false =>
  have ZP:=Zf (show false=R by rw[←ZQ,Bool.false_and]);clear ZQ;go_wp2_with (go_at_call 173;refine (q1'.out _).mono ?_;rintro e w' ⟨rfl,x,rfl⟩);go_ret;exact⟨congrArg (fun z=>Zd (Zy z)) ZP.out,x,rfl⟩):P:=h
def vK(h:P:=by
 rw[hv];have hm:=Zo hx;have US:=Zo hy;obtain⟨pa,hp,hc⟩:=ZF.headers.row a x hx;have hl:=(Zi.1 hx).1;have hc1:Yg w (pa.add (a*2)) [.string x.name,.slice x.fields.p x.fields.l.length x.fields.cap]:=hc;obtain⟨pb,Xx,hc2⟩:=(ZF.headers.kids x hm).fields.row b y hy;have XK:=(Zi.1 hy).1;rw[Xx]at hc1;exact Ab):P:=h
def agI(h:P:=by
 have h1:=JP p w ZF hz (a:Int) y.name;have h2:=Px (X5 p (a:Int) y.name) (b:Int) w;rw[hp]at h1 ⊢;exact aaZ _ _ _ _ _ _ _ _ _ _ _ _ _ _ _ _ _ _ _ _ _ _ _ _ _ _ _ _ _ _ _ _ _ _ _ _ _ _ _ _ _ _ _ _ _ _ _ _ _ _ (a) (hl) (hc1) (b) (XK) (hc2) (h1) (h2)):P:=h
def agJ(h:P:=by
 have h1:=Me p w ZF hz (a:Int) y.name;rw[hp]at h1 ⊢;exact gQ _ _ _ _ _ _ _ _ _ _ _ _ _ _ _ _ _ _ _ _ _ _ _ _ _ _ _ _ _ _ _ _ _ _ _ _ _ _ _ _ _ _ _ _ _ (mE _ _ _ _ _ _ _ _ _ _ _ _ _ _ _ _ _ _ _ _ _ _ _ _ _ _ _ _ _ _ _ _ _ _ _ _ _ _ _ _ _ _ _ _ _ _ _ _ _ _ (a) (hl) (hc1) (b) (XK) (hc2) (h1) (rfl))):P:=h
def Iw(h:P:=by
 have hR:=Zf (VB ⟨zX,ZE⟩ (show V.heap.size≤V.heap.size+1+1 by omega) cc fc);have qhN:=Zf (ZK ZE Sz.out);have ZY:=Zf ZE;clear hX ca cb cc fc ZE Sz;exact K6):P:=h
def agK(h:P:=by
 refine (qhN.out Y0).mono ?_;rintro r w' ⟨rfl,x1,rfl⟩;clear qhN;go_wp2_with fail;refine (UD X 7 x1).mono ?_;rintro r w' ⟨rfl,x9,rfl⟩;go_wp2;exact⟨rfl,rfl,ati⟩):P:=h
def agL(h:P:=by
 open Z renaming abZ→La in exact LQ):P:=h
def agM(h:P:=by
 open Z renaming ab1→La in exact LQ):P:=h
def agN(h:P:=by
 open Z renaming ab2→La in exact LQ):P:=h
def EX(h:P:=by
 have q0:=Zf (ZK hzz h0.out);have q1:=Zf (ZK hzz h1.out);have q2:=Zf ((h2.out W zz m1 m2 m3 hzz TQ).pure);have q3:=Zf ((h3.out W zz m1 m2 m3 hzz TQ).pure);have q4:=Zf ((h4.out W zz m1 m2 m3 hzz TQ).pure);exact Gu):P:=h
def agO(h:P:=by
 have ZN:=Zf hzz;clear hW ZG Ue hzz cb TQ hm h0 h1 h2 h3 h4 ca0 cx0 ca1 cx1 ca2 cx2 ca3 cx3 ca4 cx4 ca5 cx5 ca6 cx6;refine (q0.out _).mono ?_;rintro r w' ⟨rfl,x1,rfl⟩;go_wp2_with (first|(go_at_call 55;with_reducible refine (q1.out _).mono ?_;rintro r w' ⟨rfl,x,rfl⟩)|(go_at_call 57;with_reducible refine (q2.out _).mono ?_;rintro r w' ⟨rfl,x,rfl⟩)|(go_at_call 59;with_reducible refine (q3.out _).mono ?_;rintro r w' ⟨rfl,x,rfl⟩)|(go_at_call 61;with_reducible refine (q4.out _).mono ?_;rintro r w' ⟨rfl,x,rfl⟩));exact XO):P:=h
def agP(h:P:=by
 have q5:=Zf ((h5.out W zz m1 m2 m3 hzz TQ).pure);have ZN:=Zf hzz;clear hW ZG Ue hzz cb TQ hm h0 h1 h2 h3 h4 h5 ca0 cx0 ca1 cx1 ca2 cx2 ca3 cx3 ca4 cx4 ca5 cx5 ca6 cx6;refine (q0.out _).mono ?_;rintro r w' ⟨rfl,x1,rfl⟩;go_wp2_with (first|(go_at_call 55;with_reducible refine (q1.out _).mono ?_;rintro r w' ⟨rfl,x,rfl⟩)|(go_at_call 57;with_reducible refine (q2.out _).mono ?_;rintro r w' ⟨rfl,x,rfl⟩)|(go_at_call 59;with_reducible refine (q3.out _).mono ?_;rintro r w' ⟨rfl,x,rfl⟩)|(go_at_call 61;with_reducible refine (q4.out _).mono ?_;rintro r w' ⟨rfl,x,rfl⟩)|(go_at_call 63;with_reducible refine (q5.out _).mono ?_;rintro r w' ⟨rfl,x,rfl⟩));exact XO):P:=h
def agQ(h:P:=by
 have q5:=Zf ((h5.out W zz m1 m2 m3 hzz TQ).pure);have q6:=Zf (ZK hzz h6.out);have ZN:=Zf hzz;clear hW ZG Ue hzz cb TQ hm h0 h1 h2 h3 h4 h5 h6 ca0 cx0 ca1 cx1 ca2 cx2 ca3 cx3 ca4 cx4 ca5 cx5 ca6 cx6;refine (q0.out _).mono ?_;rintro r w' ⟨rfl,x1,rfl⟩;go_wp2_with (first|(go_at_call 55;with_reducible refine (q1.out _).mono ?_;rintro r w' ⟨rfl,x,rfl⟩)|(go_at_call 57;with_reducible refine (q2.out _).mono ?_;rintro r w' ⟨rfl,x,rfl⟩)|(go_at_call 59;with_reducible refine (q3.out _).mono ?_;rintro r w' ⟨rfl,x,rfl⟩)|(go_at_call 61;with_reducible refine (q4.out _).mono ?_;rintro r w' ⟨rfl,x,rfl⟩)|(go_at_call 63;with_reducible refine (q5.out _).mono ?_;rintro r w' ⟨rfl,x,rfl⟩)|(go_at_call 64;with_reducible refine (q6.out _).mono ?_;rintro r w' ⟨rfl,x,rfl⟩));exact XO):P:=h
def Iy(h:P:=by
 have d0:=fun y=>(hc.plus y).c0 _ asI;have d1:=fun y=>(hc.plus y).cs 0 _ asI;have d2:=fun y=>(hc.plus y).cs 1 _ asI;exact K7):P:=h
def agR(h:P:=by
 have d3:=fun y=>(hc.plus y).cs 2 _ asI;have d4:=fun y=>(hc.plus y).cs 3 _ asI;exact zB):P:=h
def agS(h:P:=by
 have d3:=fun y=>(hc.plus y).cs 2 _ asI;have d4:=fun y=>(hc.plus y).cs 3 _ asI;have d5:=fun y=>(hc.plus y).cs 4 _ asI;have d6:=fun y=>(hc.plus y).cs 5 _ asI;exact Lv):P:=h
def vM(h:P:=by
 have Xh:=Zf hP;have f0:=fun o:Obj=>YG (hp.c0 _ rfl) o;clear q0 q1 q2 q3 q4 q5 q6 hb h0 hp Xx hJ hP;refine callsIn_of_wp func66 rfl trivial ?_ rfl;simp only[ntmps66,List.size_toArray,Zk,Zl,Nat.reduceAdd,Nat.reduceSub,Array.replicate_succ,Array.replicate_zero,List.push_toArray,List.append_toArray,List.nil_append,List.cons_append];gi_wp2;exact Ad):P:=h
def agT(h:P:=by
 have g0:=Zf (q0'.out _ (Kq.alloc S W (.cells #[yv l] 133)) (CM W (yv l) 133) (YM.out _));refine⟨trivial,rfl,CallsIn.mono g0.out ?_⟩;rintro e w0 (⟨rfl,hJ0,hk0⟩|⟨rfl,hx⟩)
 ·have Rb:=hk0
  have UL:=(Kq.alloc S W _).trans Rb;have b0:=TH Yi.out _ _ Rb 0 _ rfl;have f1:=Xh.out _ UL 1 _ rfl;have g1:=Zf (q1'.out _ UL b0 hJ0);have hA0':=Zf Rb;clear g0 hk0 Rb hJ0 UL f0;gi_wp2;refine⟨trivial,rfl,CallsIn.mono g1.out ?_⟩;rintro e w1 (⟨rfl,hJ1,hk1⟩|⟨rfl,hx⟩)
  ·have Wp:=hA0'.out.trans hk1
   have Y8:=(Kq.alloc S W _).trans Wp;have b1:=TH Yi.out _ _ Wp 0 _ rfl;have f2:=Xh.out _ Y8 2 _ rfl;have g2:=Zf (q2'.out _ Y8 b1 hJ1);have Qm:=Zf Wp;clear g1 hk1 Wp hJ1 Y8 f1 b0;gi_wp2;refine⟨trivial,rfl,CallsIn.mono g2.out ?_⟩;rintro e w2 (⟨rfl,Xc,Yp⟩|⟨rfl,hx⟩)
   ·have Wh:=Qm.out.trans Yp
    have XJ:=(Kq.alloc S W _).trans Wh;have b2:=TH Yi.out _ _ Wh 0 _ rfl;have f3:=Xh.out _ XJ 3 _ rfl;have g3:=Zf (q3'.out _ XJ b2 Xc);have Rc:=Zf Wh;clear g2 Yp Wh Xc XJ f2 b1;gi_wp2;refine⟨trivial,rfl,CallsIn.mono g3.out ?_⟩;rintro e w3 (⟨rfl,hJ3,Xi⟩|⟨rfl,hx⟩)
    ·have WY:=Rc.out.trans Xi
     have WZ:=(Kq.alloc S W _).trans WY;have b3:=TH Yi.out _ _ WY 0 _ rfl;have f4:=Xh.out _ WZ 4 _ rfl;have g4:=Zf (q4'.out _ WZ b3 hJ3);have RA:=Zf WY;clear g3 Xi WY hJ3 WZ f3 b2;gi_wp2;refine⟨trivial,rfl,CallsIn.mono g4.out ?_⟩;rintro e w4 (⟨rfl,hJ4,hk4⟩|⟨rfl,hx⟩)
     ·have Tf:=RA.out.trans hk4
      have hW4:=(Kq.alloc S W _).trans Tf;have b4:=TH Yi.out _ _ Tf 0 _ rfl;have f5:=Xh.out _ hW4 5 _ rfl;have g5:=Zf (q5'.out _ hW4 b4 hJ4);have hA4':=Zf Tf;clear g4 hk4 Tf hJ4 hW4 f4 b3;gi_wp2;refine⟨trivial,rfl,CallsIn.mono g5.out ?_⟩;rintro e w5 (⟨rfl,hJ5,hk5⟩|⟨rfl,hx⟩)
      ·have hA5:=hA4'.out.trans hk5
       have hW5:=(Kq.alloc S W _).trans hA5;have b5:=TH Yi.out _ _ hA5 0 _ rfl;have f6:=Xh.out _ hW5 6 _ rfl;have g6:=Zf (q6'.out _ hW5 b5 hJ5);have hA5':=Zf hA5;clear g5 hk5 hA5 hJ5 hW5 f5 b4;gi_wp2;refine⟨trivial,rfl,CallsIn.mono g6.out ?_⟩;rintro e w6 (⟨rfl,hJ6,hk6⟩|⟨rfl,hx⟩)
       ·have hA6:=hA5'.out.trans hk6
        have hW6:=(Kq.alloc S W _).trans hA6;exact uv
       ·exact Da
      ·exact Db
     ·exact Dc
    ·exact Dd
   ·exact De
  ·exact Df
 ·exact uH):P:=h
def agU(h:P:=by
 have g0:=Zf (q0'.out _ (Kr.alloc S W (.cells #[yv l] 133)) (JK Yi.out W rfl (yv l) 133) (YM.out _));refine⟨trivial,rfl,CallsIn.mono g0.out ?_⟩;rintro e w0 (⟨rfl,hJ0,hk0⟩|⟨rfl,hx⟩)
 ·have Rb:=hk0
  have UL:=(Kr.alloc S W _).trans Rb;have o0:=Zf (Nq Yi.out _ _ Rb);have b0:=o0.out.cell;have f1:=Xh.out _ UL 1 _ rfl;have g1:=Zf (q1'.out _ UL o0.out hJ0);have hA0':=Zf Rb;clear g0 hk0 Rb hJ0 UL f0;gi_wp2;refine⟨trivial,rfl,CallsIn.mono g1.out ?_⟩;rintro e w1 (⟨rfl,hJ1,hk1⟩|⟨rfl,hx⟩)
  ·have Wp:=hA0'.out.trans hk1
   have Y8:=(Kr.alloc S W _).trans Wp;have o1:=Zf (Nq Yi.out _ _ Wp);have b1:=o1.out.cell;have f2:=Xh.out _ Y8 2 _ rfl;have g2:=Zf (q2'.out _ Y8 o1.out hJ1);have Qm:=Zf Wp;clear g1 hk1 Wp hJ1 Y8 f1 b0;gi_wp2;refine⟨trivial,rfl,CallsIn.mono g2.out ?_⟩;rintro e w2 (⟨rfl,Xc,Yp⟩|⟨rfl,hx⟩)
   ·have Wh:=Qm.out.trans Yp
    have XJ:=(Kr.alloc S W _).trans Wh;have o2:=Zf (Nq Yi.out _ _ Wh);have b2:=o2.out.cell;have f3:=Xh.out _ XJ 3 _ rfl;have g3:=Zf (q3'.out _ XJ o2.out Xc);have Rc:=Zf Wh;clear g2 Yp Wh Xc XJ f2 b1;gi_wp2;refine⟨trivial,rfl,CallsIn.mono g3.out ?_⟩;rintro e w3 (⟨rfl,hJ3,Xi⟩|⟨rfl,hx⟩)
    ·have WY:=Rc.out.trans Xi
     have WZ:=(Kr.alloc S W _).trans WY;have o3:=Zf (Nq Yi.out _ _ WY);have b3:=o3.out.cell;have f4:=Xh.out _ WZ 4 _ rfl;have g4:=Zf (q4'.out _ WZ o3.out hJ3);have RA:=Zf WY;clear g3 Xi WY hJ3 WZ f3 b2;gi_wp2;refine⟨trivial,rfl,CallsIn.mono g4.out ?_⟩;rintro e w4 (⟨rfl,hJ4,hk4⟩|⟨rfl,hx⟩)
     ·have Tf:=RA.out.trans hk4
      have hW4:=(Kr.alloc S W _).trans Tf;have o4:=Zf (Nq Yi.out _ _ Tf);have b4:=o4.out.cell;have f5:=Xh.out _ hW4 5 _ rfl;have g5:=Zf (q5'.out _ hW4 o4.out hJ4);have hA4':=Zf Tf;clear g4 hk4 Tf hJ4 hW4 f4 b3;gi_wp2;refine⟨trivial,rfl,CallsIn.mono g5.out ?_⟩;rintro e w5 (⟨rfl,hJ5,hk5⟩|⟨rfl,hx⟩)
      ·have hA5:=hA4'.out.trans hk5
       have hW5:=(Kr.alloc S W _).trans hA5;have o5:=Zf (Nq Yi.out _ _ hA5);have b5:=o5.out.cell;have f6:=Xh.out _ hW5 6 _ rfl;have g6:=Zf (q6'.out _ hW5 o5.out hJ5);have hA5':=Zf hA5;clear g5 hk5 hA5 hJ5 hW5 f5 b4;gi_wp2;refine⟨trivial,rfl,CallsIn.mono g6.out ?_⟩;rintro e w6 (⟨rfl,hJ6,hk6⟩|⟨rfl,hx⟩)
       ·have hA6:=hA5'.out.trans hk6
        have hW6:=(Kr.alloc S W _).trans hA6;exact uv
       ·exact Da
      ·exact Db
     ·exact Dc
    ·exact Dd
   ·exact De
  ·exact Df
 ·exact uH):P:=h
def L5(h:P:=by
 rw[hW];have c0_0:=cb0 0 _ rfl;have c0_1:=cb0 1 _ rfl;have c0_2:=cb0 2 _ rfl;have c1_0:=cb1 0 _ rfl;have c1_1:=cb1 1 _ rfl;have c1_2:=cb1 2 _ rfl;exact Lk):P:=h
def agV(h:P:=by
 have q0c:=Zf (ZK hz h0.out);have q1c:=Zf (ZK hz h1.out);have ZN:=Zf hz;clear hW hz cb0 cb1;refine (q0c.out _).mono ?_;rintro r w' ⟨rfl,x1,rfl⟩;go_wp2_with (first|(go_at_call 214;with_reducible refine (q1c.out _).mono ?_;rintro r w' ⟨rfl,x,rfl⟩));exact XO):P:=h
def agW(h:P:=by
 have c1_3:=cb1 3 _ rfl;have c1_4:=cb1 4 _ rfl;exact MJ):P:=h
def agX(h:P:=by
 open Z renaming ais→OB in exact OZ):P:=h
def agY(h:P:=by
 have c1_3:=cb1 3 _ rfl;have c1_4:=cb1 4 _ rfl;have q0c:=Zf (ZK hz h0.out);have q1c:=Zf (ZK hz h1.out);exact N8):P:=h
def agZ(h:P:=by
 have q0c:=Zf (ZK hz h0.out);have q1c:=Zf (ZK hz h1.out);have ZN:=Zf hz;clear hW hz cb0 cb1;exact oy):P:=h
def vN(h:P:=by
 intro i x W1 hx hK Xq;have hm:x∈p.actions.l:=Zo hx;have q0:=YW Ac.sz p.actions.l x hm;have q1:=XM Fd.sz (fun y=>atm) x.params.l;have q2:x.body.size St.sz≤1048576:=auo;rw[show QY x=x.params.l.length+(St.encs (i:Int) x.body.l).length+1 by unfold QY;rw[St.encs_len2 (i:Int) 0]];exact Ae):P:=h
def ag0(h:P:=by
 exact aP l (Yh p) S J Jx hR i x.name x.params.p x.body.p x.params.l.length x.params.cap x.body.l.length x.body.cap (St.encs (i:Int) x.body.l) auo _ auG W1 (Xb W1 (hV.trans hK)) Xq
  (fun k' W2 h Wr hj=>Cw x.body l (Yh p) S J Jx hR (i:Int) w hS (i3.kids x hm).body q2 k' W2 (((hw.trans hV).trans hK).trans h) (Xb W2 ((hV.trans hK).trans h)) Wr hj)):P:=h
def ag1(h:P:=by
 exact aQ l (Yh p) S J Jx hR i x.name x.params.p x.body.p x.params.l.length x.params.cap x.body.l.length x.body.cap (St.encs (i:Int) x.body.l) auo _ auG W1 (Xb W1 (hV.trans hK)) Xq
  (fun k' W2 h Wr hj=>Cx x.body l (Yh p) S J Jx hR (i:Int) w hS (i3.kids x hm).body q2 k' W2 (((hw.trans hV).trans hK).trans h) (Xb W2 ((hV.trans hK).trans h)) Wr hj)):P:=h
def Iz(h:P:=by
 have q3:(a5.toList==[])=false:=asP;have q3x:¬a5.toList=[]:=asP;have q3y:(a5.toList !=[])=true:=asP;exact K9):P:=h
def ag2(h:P:=by
 cases s0
 case false =>
  open Z renaming ad2→SI in exact SV
 case true =>
  cases s1
  case false =>
   open Z renaming O2→SI in exact SV
  case true =>
   by_cases q4:(a1==0)=true
   case neg =>
    have q4:(a1==0)=false:=atf;open Z renaming O2→NQ in exact Mv
   case pos =>
    by_cases q5:(a2==0)=true
    case neg =>
     have q5:(a2==0)=false:=atn;open Z renaming O2→Lm in exact L7
    case pos =>
     by_cases q6:(a3==0)=true
     case neg =>
      open Z renaming O2→Gy in exact E6
     case pos =>
      by_cases q7:(a6==0)=true
      case neg =>
       have q7:(a6==0)=false:=by simpa using q7
       open Z renaming O2→GY in exact Dw
      case pos =>
       by_cases q8:(a7==0)=true
       case neg =>
        have q8:(a7==0)=false:=by simpa using q8
        open Z renaming O2→GU in exact Ds
       case pos =>
        open Z renaming O2→GW in exact Du):P:=h
def ag3(h:P:=by
 open Z renaming Qd→SI in exact SV):P:=h
def vO(h:P:=by
 have c0:=fun o:Obj=>YG hc o;clear hR hs h0;refine callsIn_of_wp func70 rfl trivial ?_ rfl;simp only[ntmps70,List.size_toArray,Zk,Zl,Nat.reduceAdd,Nat.reduceSub,Array.replicate_succ,Array.replicate_zero,List.push_toArray,List.append_toArray,List.nil_append,List.cons_append];gi_wp2;refine⟨trivial,rfl,CallsIn.mono (q1.out _) ?_⟩;exact Af):P:=h
def ag4(h:P:=by
 rintro e w' (⟨rfl,Xc,Yp⟩|⟨rfl,hx⟩)
 ·gi_wp2
  go_ret;exact .inl ⟨rfl,Xc,(Kq.alloc S W _).trans Yp⟩
 ·exact UF):P:=h
def ag5(h:P:=by
 rintro e w' (⟨rfl,Xc,Yp⟩|⟨rfl,hx⟩)
 ·gi_wp2
  go_ret;exact .inl ⟨rfl,Xc,(Kr.alloc S W _).trans Yp⟩
 ·exact UF):P:=h
def EZ(h:P:=by
 have d0:=Yx.c0 _ rfl;have d1:=Yx.cs 0 _ rfl;have d2:=Yx.cs 1 _ rfl;have d3:=Yx.cs 2 _ rfl;have d4:=Yx.cs 3 _ rfl;have d5:=Yx.cs 4 _ rfl;have d6:=Yx.cs 5 _ rfl;have d7:=Yx.cs 6 _ rfl;have d8:=Yx.cs 7 _ rfl;exact Gv):P:=h
def ag6(h:P:=by
 have d9:=Yx.cs 8 _ rfl;have hbn2:b≤1048576:=atG;have a6:=Zf (Y7 i b ZC hbn2);clear hbn2;have RJ:=Zf hzr;have Tv:=Zf hJ;have VY:=Zf hx;clear Yx YZ hx hzr hJ Xx;go_upto_region 5 with (fail)
 obtain⟨X2,Y2,XP,⟨Xt,ZG⟩,cc⟩:=YO wr _ 52;rw[XP];have s9:∀y,(plus X2 y).cell? ⟨wr.heap.size,9,none⟩=some (.int .u8 x.kind):=cc 9 _ rfl;obtain⟨xk,hxk⟩:=ZB x.kind;rw[hxk]at s9;have hxk':=Zf hxk;clear hxk;have QU:=Zf (show ∀x1,∃z,plus X2 x1=plus V z from fun x1=>by rw[ZG,RJ.out,ZD,ZD];exact⟨_,rfl⟩);clear XP cc ZG d0 d1 d2 d3 d4 d5 d6 d7 d8 d9;by_cases ZT:xk=2
 ·subst ZT
  go_wp2_with fail;refine (UD X2 8 _).mono ?_;rintro r w' ⟨rfl,x3,rfl⟩;rw[ZD];go_wp2;refine⟨rfl,?_,QU.out _⟩;have Xs:¬((l.take b).all fun y=>decide (y.kind≠2))=true:=fun h=>by
   rw[List.all_eq_true]at h;have hm:x∈l.take b:=Zo (i:=i) (by rw[List.getElem?_take,if_pos ZC];exact VY.out);have:=h x hm;rw[hxk'.out]at this;simp at this
  rw[←hRR'.out,if_neg Xs];rfl
 ·have YN:(xk !=2)=true:=by simpa using ZT
  go_wp2_with fail;refine (Vq X2 8 _).mono ?_;rintro r w' ⟨rfl,x3,rfl⟩;rw[ZD];go_wp2;refine⟨⟨i+1,ZC,congrArg (Zz .i64) a6.out,QU.out _,fun j y hj hy=>?_⟩,Y9 i b ZC a6.out⟩;by_cases UQ:j<i
  ·exact Tv.out j y UQ hy
  ·obtain rfl:j=i:=by omega
   rw[VY.out]at hy;obtain rfl:=Option.some.inj hy;rw[hxk'.out];exact ZT):P:=h
def ag7(h:P:=by
 have a6:=Zf (Y7 k n ZC ZO.out);have hZ':=Zf hzr;have X6:=Zf hqr;have XI:=Zf hBr;have hO':=Zf hOr;have Tv:=Zf hJ;have VY:=Zf hx;clear Yx YZ hx hzr hqr hBr hOr hJ;go_upto_region 5 with (fail)
 clear d0 d1 d2 d3 d4 d5 d6 d7 d8;have hE:=World.alloc_heap_new wr (.cells #[.int .u8 x.op,.int .i64 x.lit.w,.int .u64 x.lit.h,.int .u64 x.lit.l,.string x.head,.string x.name,.int .i64 x.hi,.int .i64 x.lo,.slice x.p x.args.length x.cap] 45);have Sy:=XI.out.alloc (.cells #[.int .u8 x.op,.int .i64 x.lit.w,.int .u64 x.lit.h,.int .u64 x.lit.l,.string x.head,.string x.name,.int .i64 x.hi,.int .i64 x.lo,.slice x.p x.args.length x.cap] 45);have hOU:=LC hO'.out (.cells #[.int .u8 x.op,.int .i64 x.lit.w,.int .u64 x.lit.h,.int .u64 x.lit.l,.string x.head,.string x.name,.int .i64 x.hi,.int .i64 x.lo,.slice x.p x.args.length x.cap] 45);have hqU:=X6.out.trans (Kq.alloc (fun b=>b=cb) wr (.cells #[.int .u8 x.op,.int .i64 x.lit.w,.int .u64 x.lit.h,.int .u64 x.lit.l,.string x.head,.string x.name,.int .i64 x.hi,.int .i64 x.lo,.slice x.p x.args.length x.cap] 45));have X9:∃z,wr.alloc (.cells #[.int .u8 x.op,.int .i64 x.lit.w,.int .u64 x.lit.h,.int .u64 x.lit.l,.string x.head,.string x.name,.int .i64 x.hi,.int .i64 x.lo,.slice x.p x.args.length x.cap] 45)=plus w0 z:=So hZ'.out _;obtain⟨U,hU⟩:=ZB (wr.alloc (.cells #[.int .u8 x.op,.int .i64 x.lit.w,.int .u64 x.lit.h,.int .u64 x.lit.l,.string x.head,.string x.name,.int .i64 x.hi,.int .i64 x.lo,.slice x.p x.args.length x.cap] 45));rw[hU]at hE Sy hOU hqU X9 ⊢;obtain⟨eb,heb⟩:=ZB wr.heap.size;have hebV:V.heap.size≤eb:=by rw[←heb];exact X6.out.size
 have hebU:eb<U.heap.size:=(Array.getElem?_eq_some_iff.1 (heb▸hE)).1;rw[heb]at hE ⊢;have hSN:SN cb eb (.slice p.headers.p p.headers.l.length p.headers.cap) (.slice p.metas.p p.metas.l.length p.metas.cap) (.slice p.states.p p.states.l.length p.states.cap) (.slice p.actions.p p.actions.l.length p.actions.cap) (.slice p.tables.p p.tables.l.length p.tables.cap) (.slice p.control.p p.control.l.length p.control.cap) (.slice p.emit.p p.emit.l.length p.emit.cap) (.int .u8 x.op) (.int .i64 x.lit.w) (.int .u64 x.lit.h) (.int .u64 x.lit.l) (.string x.head) (.string x.name) (.int .i64 x.hi) (.int .i64 x.lo) (.slice x.p x.args.length x.cap) U :=
  ⟨Sy.at.cells 0 _ rfl,Sy.at.cells 1 _ rfl,Sy.at.cells 2 _ rfl,Sy.at.cells 3 _ rfl,Sy.at.cells 4 _ rfl,Sy.at.cells 5 _ rfl,Sy.at.cells 6 _ rfl,YX hE rfl,YX hE rfl,YX hE rfl,YX hE rfl,YX hE rfl,YX hE rfl,YX hE rfl,YX hE rfl,YX hE rfl⟩
 have kt:=hkt'.out U X9 x (Zo VY.out);have kw:=Mk (x.ty p (-1)).2 U;have hKT:VA p x=if (x.ty p (-1)).1=0 then Yz (x.ty p (-1)).2 else (x.ty p (-1)).1:=rfl;have hKW:UW p x=(x.ty p (-1)).2.w:=rfl;obtain⟨⟨R,t⟩,hRt⟩:∃r,x.ty p (-1)=r:=⟨_,rfl⟩;rw[hRt]at kt kw hKT hKW;simp only at kt kw hKT hKW;simp only[Rp,Ex.val,Ex.cells]at kt;clear hRt hU;have HSN:=Zf hSN;have HBU:=Zf Sy;have HOU:=Zf hOU;have HQU:=Zf hqU;have HZU:=Zf X9;have HKT:=Zf hKT;have HKW:=Zf hKW;have qt:=Zf (Tt kt);have Heb:=Zf (And.intro hebV hebU);have HNE:=Zf (show ∀g,kv.ownBlock=some g→V.heap.size≤g∧g≠eb from fun g e=>by
  obtain⟨h1,cur,h2⟩:=LB hO'.out e;have:=(Array.getElem?_eq_some_iff.1 h2).1;exact⟨h1,asB⟩)
 clear hE hSN Sy hOU hqU X9 hKT hKW kt hebV hebU heb;have PAN:=Zf (fun (h0:VA p x≠0) (w':World) (Xr:∃z,w'=plus U z)=>hPk'.out k x VY.out (fun j y hj hy=>Tv.out j y hj hy) h0 w' (by obtain⟨z,rfl⟩:=Xr;exact Uj HZU.out z) (by obtain⟨z,rfl⟩:=Xr;exact HQU.out.trans (Kq.plus _ U z)));by_cases r0:R=0
 ·subst r0
  rw[if_pos rfl]at HKT;by_cases q0:Yz t=0
  ·rw[if_pos q0]at kw
   have qw:=Zf (Tt kw);clear kw;clear PAN;open Z renaming acN→Gp in exact EN
  ·rw[if_neg q0]at kw
   have qw:=Zf (Tt kw);clear kw;have PB:=Zf (show ∀w',(∃z,w'=plus U z)→Post (YJ (Yz t)) w' from fun w' h=>by have q:=PAN.out (by rw[HKT.out];exact q0) w' h;rwa [HKT.out]at q);clear PAN;open Z renaming acO→Gp in exact EN
 ·rw[if_neg r0]at HKT
  rw[VH r0]at qt;have PA:=Zf (show ∀w',(∃z,w'=plus U z)→Post (YJ R) w' from fun w' h=>by have q:=PAN.out (by rw[HKT.out];exact r0) w' h;rwa [HKT.out]at q);clear PAN kw;open Z renaming acP→Gp in exact EN):P:=h
def ag8(h:P:=by
 have d9:=Yx.cs 8 _ rfl;have d10:=Yx.cs 9 _ rfl;have d11:=Yx.cs 10 _ rfl;have d12:=Yx.cs 11 _ rfl;have d13:=Yx.cs 12 _ rfl;rw[Yw];clear hF hI hb0 Yx hc ZF Rh YB ZV hs;go_upto_region 6 with (first|(at_builtin;refine Qu hI'.out (.st a s) _ rfl rfl _ _ rfl rfl rfl atJ ?_;intro v1 w1 h1;obtain⟨hc1,q1,-⟩:=WT.out _ _ _ h1;have YA:=Zf h1;have q1':=Zf q1;have e12:=hc1.cs 11 _ rfl;clear h1 hc1 q1))
 clear d0 d1 d2 d3 d4 d5 d6 d7 d8 d9 d10 d11 d12 d13;go_upto_region 7 with (first|(go_at_call 25;with_reducible refine q1'.out.mono ?_;rintro e w2 ⟨v2,rfl,h2⟩;obtain⟨p2,c2,rfl,r2⟩:=h2.row;have r2':=Zf r2;have VP:=Zf (YA.out.after h2.below);clear h2 r2)|(at_builtin;refine RM VP.out T p2 _ c2 rfl r2'.out rfl _ _ rfl rfl rfl (by have:=Yi.out;rw[Zj,List.length_singleton];omega) ?_;intro v4 w4 h4;obtain⟨hc1,-,q4⟩:=WT.out _ _ _ h4;have T8:=Zf h4;have q4':=Zf q4;have e13:=hc1.cs 12 _ rfl;clear h4 hc1 q4))
 go_wp2_with (first|(go_at_call 25;with_reducible refine q4'.out.mono ?_;rintro e w5 ⟨v5,rfl,h5⟩;obtain⟨p5,c5,rfl,r5⟩:=h5.row;have r5':=Zf r5;have Te:=Zf (T8.out.after h5.below);clear h5 r5)|(at_builtin;refine RM Te.out E p5 _ c5 rfl r5'.out rfl _ _ rfl rfl rfl (by have:=Yi.out;rw[Zj,Zj,List.length_singleton];omega) ?_;intro v7 w7 h7;have h7':=Zf h7;clear h7));go_roundw
 case rel=>exact⟨k+1,ZC,congrArg (Zz .i64) a6.out,by rw[he.out];have:=h7'.out;simpa [List.append_assoc]using this⟩
 case measure=>exact Y9 k n ZC a6.out):P:=h
def L6(h:P:=by
 have c0:=ca 0 _ rfl;have c1:=ca 1 _ rfl;have c2:=ca 2 _ rfl;have c3:=ca 3 _ rfl;have c4:=ca 4 _ rfl;have c5:=ca 5 _ rfl;have c6:=ca 6 _ rfl;exact Ll):P:=h
def ag9(h:P:=by
 have qc:=Zf (ZK hz Vn.out);have ZG:=Zf hz;clear hW hz ca Vn;cases b with
 | true =>
  go_wp2_with (first|(go_at_call 85;with_reducible refine (qc.out _).mono ?_;rintro r w' ⟨rfl,x,rfl⟩));go_ret;exact⟨rfl,aty⟩
 | false =>
  go_wp2_with (first|(go_at_call 85;with_reducible refine (qc.out _).mono ?_;rintro r w' ⟨rfl,x,rfl⟩));go_ret;exact⟨rfl,aty⟩):P:=h
def aha(h:P:=by
 have b0:=cb 0 _ rfl;have b1:=cb 1 _ rfl;have b2:=cb 2 _ rfl;have b3:=cb 3 _ rfl;have b4:=cb 4 _ rfl;have b5:=cb 5 _ rfl;have b6:=cb 6 _ rfl;have b7:=cb 7 _ rfl;have b8:=cb 8 _ rfl;have q1:=Zf (ZK hz ZL'.out);have q2:=Zf (ZK hz ZT'.out);have q3:=Zf (ZK hz Ys'.out);have q4:=Zf (ZK hz YQ'.out);have ZG:=Zf hz;clear hW hz ca cb ZL' ZT' Ys' YQ';by_cases o2:op=2
 ·have Wd:=Zf (g2.out o2)
  subst o2;clear g0 g2 g3 g4 g6 q3 q4;open Z renaming aeF→Lf in exact LX
 have n2:(op==2)=false:=by simpa using o2
 by_cases o3:op=3
 ·have Wd:=Zf (g3.out o3)
  subst o3;clear g0 g2 g3 g4 g6 q1 q2 q4;go_wp2_with (first|(go_at_call 84;with_reducible refine (q3.out _).mono ?_;rintro r w' ⟨rfl,x,rfl⟩));exact Ho
 have n3:(op==3)=false:=ato;by_cases o4:op=4
 ·have Wd:=Zf (g4.out o4)
  subst o4;clear g0 g2 g3 g4 g6 q1 q2 q3;go_wp2_with (first|(go_at_call 91;with_reducible refine (q4.out _).mono ?_;rintro r w' ⟨rfl,x,rfl⟩));exact Ho
 have n4:(op==4)=false:=by simpa using o4
 by_cases o6:op=6
 ·have Wd:=Zf (g6.out o6)
  subst o6;clear g0 g2 g3 g4 g6 q2 q3 q4;go_wp2_with (first|(go_at_call 87;with_reducible refine (q1.out _).mono ?_;rintro r w' ⟨rfl,x,rfl⟩));exact Ho
 have n6:(op==6)=false:=atp;have Wd:=Zf (g0.out o2 o3 o4 o6);clear g0 g2 g3 g4 g6 q1 q2 q3 q4 o2 o3 o4 o6;exact pm):P:=h
def ahb(h:P:=by
 have c7:=ca 7 _ rfl;have c8:=ca 8 _ rfl;have hc3:∀y,(plus W y).cell? ⟨bt,0,none⟩=some (.func (.func g) #[] caps):=fun y=>ZS (by rw[hz];exact ZS Yo.out z) y;have q1:=Zf (ZK hz hX'.out);have ZG:=Zf hz;clear hW hz ca hX' Yo hc2;go_wp2_with (first|(refine (q1.out _).mono ?_;rintro r w' ⟨rfl,x,rfl⟩));exact SY):P:=h
def ahc(h:P:=by
 have c7:=ca 7 _ rfl;have c8:=ca 8 _ rfl;have hTW:Nl p act b1 b2 b3 W:=by rw[ZG];exact WB.out.plus z
 have pc0:=fun y=>(hTW.plus y).pc 0 _ rfl;have pc1:=fun y=>(hTW.plus y).pc 1 _ rfl;have pc2:=fun y=>(hTW.plus y).pc 2 _ rfl;have pc3:=fun y=>(hTW.plus y).pc 3 _ rfl;have pc4:=fun y=>(hTW.plus y).pc 4 _ rfl;have pc5:=fun y=>(hTW.plus y).pc 5 _ rfl;have pc6:=fun y=>(hTW.plus y).pc 6 _ rfl;have ac:=fun y=>(hTW.plus y).ac;have q1:=Zf (ZK ZG ZL'.out);have qA:=Zf (kA.out W z ZG).pure;have UU:=Zf ZG;clear hW ZG ca ZL' WB hTW kA;cases b with
 | false =>
  have hR:=Zf (show false=R by rw[←ZR.out,Bool.false_and]);clear ZR qA;go_wp2_with (first|(go_at_call 159;with_reducible refine (q1.out _).mono ?_;rintro r w' ⟨rfl,x,rfl⟩));go_ret;exact⟨congrArg (fun z=>Zd (Zy z)) hR.out,at1⟩
 | true =>
  have hR:=Zf (show (I==-1)=R by rw[←ZR.out,Bool.true_and]);clear ZR;go_wp2_with (first|(go_at_call 159;with_reducible refine (q1.out _).mono ?_;rintro r w' ⟨rfl,x,rfl⟩)|(go_at_call 160;with_reducible refine (qA.out _).mono ?_;rintro r w' ⟨rfl,x,rfl⟩));go_ret;exact⟨congrArg (fun z=>Zd (Zy z)) hR.out,at1⟩):P:=h
def ahe(h:P:=by
 have c7:=ca 7 _ rfl;have c8:=ca 8 _ rfl;have s0:=cb 0 _ rfl;have s1:=cb 1 _ rfl;have s2:=cb 2 _ rfl;have t0:=cc 0 _ rfl;have t1:=cc 1 _ rfl;have t2:=cc 2 _ rfl;have hR:=Zf (VB ⟨zX,ZE⟩ (show V.heap.size≤V.heap.size+1+1+1 by omega) cd fd);have kc2:=Zf (Xf ZE kc'.out);have ks2:=Zf (Xf ZE ks'.out);have kt2:=Zf (Xf ZE kt'.out);have ZY:=Zf ZE;clear hX ca cb cc cd fd ZE kc' ks' kt';refine (kc2.out Y0).mono ?_;rintro r w' ⟨rfl,x5,rfl⟩;exact BG):P:=h
def vQ(h:P:=by
 obtain⟨W,hW,hB,hs,ca,cb,cr,fa,fb,fr⟩:=Su w _ _ _ 40 40 40;rw[←hW];have ca0:=ca 0 (some (.int .u64 (hi a))) rfl;have ca1:=ca 1 (some (.int .u64 (lo a))) rfl;have cb0:=cb 0 (some (.int .u64 (hi b))) rfl;have cb1:=cb 1 (some (.int .u64 (lo b))) rfl;have cr0:=cr 0 (some (.int .u64 0)) rfl;have cr1:=cr 1 (some (.int .u64 0)) rfl;clear hW fa fb ca cb cr;exact Ag):P:=h
def ahf(h:P:=by
 refine EH 13 asC asC ?_;simp only[Zs,List.take_zero,Zg,Zh];repeat (go_big_quiet_step (exact (oW _ _).at _ _))
 refine wpQuiet_nil ?_;rintro _ ⟨y,rfl⟩;go_wp2;exact bodyPost_ret (v:=.agg #[.int .u64 (bits .and .u64 (hi a) (hi b)),.int .u64 (bits .and .u64 (lo a) (lo b))]) (by simp[results,Tryz.results227,go_sem,cr0,cr1]) rfl ⟨rfl,OK hB asB _ _⟩):P:=h
def ahg(h:P:=by
 refine ((kJ a b).eqv H.out W).mono ?_;rintro e w' ⟨rfl,y,rfl⟩;go_wp2;exact bodyPost_ret (v:=.agg #[.int .u64 (hi (a &&& b)),.int .u64 (lo (a &&& b))]) (by simp[results,Tryz.results225,go_sem,cr0,cr1]) rfl ⟨rfl,OK hB asB _ _⟩):P:=h
def Qb(h:P:=by
 have ZN:=Zf hz;clear hW hz cb0 cb1;refine (q0c.out _).mono ?_;rintro r w' ⟨rfl,x1,rfl⟩;exact RQ):P:=h
def ahh(h:P:=by
 go_wp2_with (first|(go_at_call 211;with_reducible refine (q1c.out _).mono ?_;rintro r w' ⟨rfl,x,rfl⟩));exact XO):P:=h
def ahj(h:P:=by
 go_wp2_with (first|(go_at_call 211;with_reducible refine (q1c.out _).mono ?_;rintro r w' ⟨rfl,x,rfl⟩)|(go_at_call 211;with_reducible refine (q2c.out _).mono ?_;rintro r w' ⟨rfl,x,rfl⟩));exact XO):P:=h
def ahk(h:P:=by
 go_wp2_with (first|(go_at_call 211;with_reducible refine (q1c.out _).mono ?_;rintro r w' ⟨rfl,x,rfl⟩)|(go_at_call 211;with_reducible refine (q2c.out _).mono ?_;rintro r w' ⟨rfl,x,rfl⟩)|(go_at_call 212;with_reducible refine (q3c.out _).mono ?_;rintro r w' ⟨rfl,x,rfl⟩));exact XO):P:=h
def ahl(h:P:=by
 go_wp2_with (first|(go_at_call 211;with_reducible refine (q1c.out _).mono ?_;rintro r w' ⟨rfl,x,rfl⟩)|(go_at_call 211;with_reducible refine (q2c.out _).mono ?_;rintro r w' ⟨rfl,x,rfl⟩)|(go_at_call 212;with_reducible refine (q3c.out _).mono ?_;rintro r w' ⟨rfl,x,rfl⟩)|(go_at_call 213;with_reducible refine (q4c.out _).mono ?_;rintro r w' ⟨rfl,x,rfl⟩));exact XO):P:=h
def ahm(h:P:=by
 go_wp2_with (first|(go_at_call 64;with_reducible refine (q1c.out _).mono ?_;rintro r w' ⟨rfl,x,rfl⟩));exact XO):P:=h
def ahn(h:P:=by
 go_wp2_with (first|(go_at_call 133;with_reducible refine (q1c.out _).mono ?_;rintro r w' ⟨rfl,x,rfl⟩));exact XO):P:=h
def aho(h:P:=by
 go_wp2_with (first|(go_at_call 133;with_reducible refine (q1c.out _).mono ?_;rintro r w' ⟨rfl,x,rfl⟩)|(go_at_call 64;with_reducible refine (q2c.out _).mono ?_;rintro r w' ⟨rfl,x,rfl⟩));exact XO):P:=h
def ahp(h:P:=by
 go_wp2_with (first|(go_at_call 133;with_reducible refine (q1c.out _).mono ?_;rintro r w' ⟨rfl,x,rfl⟩)|(go_at_call 64;with_reducible refine (q2c.out _).mono ?_;rintro r w' ⟨rfl,x,rfl⟩)|(go_at_call 65;with_reducible refine (q3c.out _).mono ?_;rintro r w' ⟨rfl,x,rfl⟩));exact XO):P:=h
def ahq(h:P:=by
 go_wp2_with (first|(go_at_call 64;with_reducible refine (q1c.out _).mono ?_;rintro r w' ⟨rfl,x,rfl⟩)|(go_at_call 132;with_reducible refine (q2c.out _).mono ?_;rintro r w' ⟨rfl,x,rfl⟩));exact XO):P:=h
def ahr(h:P:=by
 go_wp2_with (first|(go_at_call 133;with_reducible refine (q1c.out _).mono ?_;rintro r w' ⟨rfl,x,rfl⟩)|(go_at_call 64;with_reducible refine (q2c.out _).mono ?_;rintro r w' ⟨rfl,x,rfl⟩)|(go_at_call 65;with_reducible refine (q3c.out _).mono ?_;rintro r w' ⟨rfl,x,rfl⟩)|(go_at_call 135;with_reducible refine (q4c.out _).mono ?_;rintro r w' ⟨rfl,x,rfl⟩));exact XO):P:=h
def ahs(h:P:=by
 go_wp2_with (first|(go_at_call 210;with_reducible refine (q1c.out _).mono ?_;rintro r w' ⟨rfl,x,rfl⟩));exact XO):P:=h
def E4(h:P:=by
 have d0:=hc.c0 _ asI;have d1:=hc.cs 0 _ asI;have d2:=hc.cs 1 _ asI;have d3:=hc.cs 2 _ asI;have d4:=hc.cs 3 _ asI;exact Gw):P:=h
def aht(h:P:=by
 have d5:=hc.cs 4 _ asI;have d6:=hc.cs 5 _ asI;have d7:=hc.cs 6 _ asI;have d8:=hc.cs 7 _ asI;have d9:=hc.cs 8 _ asI;have d10:=hc.cs 9 _ asI;have d11:=hc.cs 10 _ asI;have d12:=hc.cs 11 _ asI;have d13:=hc.cs 12 _ asI;exact BI):P:=h
def vR(h:P:=by
 go_wp2_with (first|(go_at_call 116;with_reducible refine (q1.out _).mono ?_;rintro r w' ⟨rfl,x,rfl⟩)|(go_at_call 116;with_reducible refine (q2.out _).mono ?_;rintro r w' ⟨rfl,x,rfl⟩));open Z renaming alc→GX in exact Dv):P:=h
def ahu(h:P:=by
 exact bodyPost_ret (v:=.tuple #[.agg #[.int .i64 (0),.bool false,.bool false],.int .i64 (5)]) asY rfl ⟨rfl,hz⟩):P:=h
def ahv(h:P:=by
 exact bodyPost_ret (v:=.tuple #[.agg #[.int .i64 (0),.bool false,.bool false],.int .i64 (B2)]) asY rfl ⟨rfl,hz⟩):P:=h
def IA(h:P:=by
 have q2:(a4.toList==[])=false:=asL;have q2x:¬a4.toList=[]:=asL;have q2y:(a4.toList !=[])=true:=asL;exact Ja):P:=h
def ahw(h:P:=by
 by_cases q3:(a5.toList==[])=true
 case neg =>
  open Z renaming ag2→K9 in exact Iz
 case pos =>
  open Z renaming ake→NT in exact My):P:=h
def ahx(h:P:=by
 by_cases q3:(a5.toList==[])=true
 case neg =>
  exact rM
 case pos =>
  open Z renaming rR→NT in exact My):P:=h
def ahy(h:P:=by
 open Z renaming Qd→Vg in exact Vk):P:=h
def vS(h:P:=by
 clear hR hn hs hb h0;refine callsIn_of_wp func68 rfl trivial ?_ rfl;simp only[ntmps68,List.size_toArray,Zk,Zl,Nat.reduceAdd,Nat.reduceSub,Array.replicate_succ,Array.replicate_zero,List.push_toArray,List.append_toArray,List.nil_append,List.cons_append];gi_wp2;refine⟨trivial,rfl,CallsIn.mono (q1.out _) ?_⟩;exact Ai):P:=h
def ahz(h:P:=by
 rintro e w' (⟨rfl,Xc,Yp⟩|⟨rfl,hx⟩)
 ·have d1:=TH Yi.out _ _ Yp 1 _ rfl
  have q2:=Zf (Mb l 2 (a:Int) n ZO.out S J Jx (k+1) w' (ZR.out.parts Wr.out.tail) Xc);have Pg:=Zf Yp;clear q1 Yp;gi_wp2;refine⟨trivial,rfl,CallsIn.mono (q2.out) ?_⟩;rintro e w2 (⟨rfl,hJ3,Xi⟩|⟨rfl,hx⟩)
  ·gi_wp2
   go_ret;exact .inl ⟨rfl,by rw[Nat.add_comm n 1,←Nat.add_assoc];exact hJ3,((Kq.alloc S W _).trans Pg.out).trans Xi⟩
  ·exact UF
 ·exact Qc):P:=h
def ahA(h:P:=by
 rintro e w' (⟨rfl,Xc,Yp⟩|⟨rfl,hx⟩)
 ·have d1:=QO Yi.out _ _ Yp 1 _ rfl
  have q2:=Zf (Mc l 2 (a:Int) n ZO.out S J Jx (k+1) w' (ZR.out.parts Wr.out.tail) Xc);have Pg:=Zf Yp;clear q1 Yp;gi_wp2;refine⟨trivial,rfl,CallsIn.mono (q2.out) ?_⟩;rintro e w2 (⟨rfl,hJ3,Xi⟩|⟨rfl,hx⟩)
  ·gi_wp2
   go_ret;exact .inl ⟨rfl,by rw[Nat.add_comm n 1,←Nat.add_assoc];exact hJ3,((Kr.alloc S W _).trans Pg.out).trans Xi⟩
  ·exact UF
 ·exact Qc):P:=h
def vT(h:P:=by
 go_upto_region 1 with (fail)
 obtain⟨W,yy,hW,⟨z,hz⟩,ca⟩:=YO V _ 30;rw[hW];have c0:=ca 0 _ rfl;have ZG:=Zf hz;clear hW ca;by_cases q1:i<0
 ·have e:=Zf (show (-1:Int)=R by rw[←ZR.out];unfold X5;rw[if_pos q1])
  exact Hl
 obtain⟨k,rfl⟩:∃k:Nat,i=(k:Int):=⟨i.toNat,asB⟩;clear q1;exact Aj):P:=h
def ahB(h:P:=by
 by_cases q2:k<n
 ·obtain⟨x,hx⟩:=Yq al k at2
  have e:=Zf (show Xv x.fields.l s=R by rw[←ZR.out];unfold X5;rw[if_neg asB,Int.toNat_natCast,YV.out];simp only[hx]);open Z renaming adS→KW in exact Il
 ·exact qH):P:=h
def ahC(h:P:=by
 by_cases q2:k<n
 ·obtain⟨x,hx⟩:=Yq al k at2
  have e:=Zf (show Xv x.fields.l s=R by rw[←ZR.out];unfold X5;rw[if_neg asB,Int.toNat_natCast,YV.out];simp only[hx]);open Z renaming adU→KW in exact Il
 ·exact qH):P:=h
def vU(h:P:=by
 go_upto_region 1 with (fail)
 obtain⟨W,yy,hW,⟨z,hz⟩,ca⟩:=YO V _ 30;rw[hW];have c3:=ca 3 _ rfl;have ZG:=Zf hz;clear hW ca;by_cases q1:i<0
 ·have e:=Zf (show (-1:Int)=R by rw[←ZR.out];unfold WN;rw[if_pos q1])
  exact Hl
 obtain⟨k,rfl⟩:∃k:Nat,i=(k:Int):=⟨i.toNat,asB⟩;clear q1;exact Ak):P:=h
def ahD(h:P:=by
 by_cases q2:k<n
 ·obtain⟨x,hx⟩:=Yq al k at2
  have e:=Zf (show Xv x.params.l s=R by rw[←ZR.out];unfold WN;rw[if_neg asB,Int.toNat_natCast,YV.out];simp only[hx]);open Z renaming adT→KW in exact Il
 ·exact qS):P:=h
def ahE(h:P:=by
 by_cases q2:k<n
 ·obtain⟨x,hx⟩:=Yq al k at2
  have e:=Zf (show Xv x.params.l s=R by rw[←ZR.out];unfold WN;rw[if_neg asB,Int.toNat_natCast,YV.out];simp only[hx]);open Z renaming adV→KW in exact Il
 ·exact qS):P:=h
def Mv(h:P:=by
 have hF:=Zf (show (false)=R by first|exact hR|(rw[←hR];simp[q1,q2,q3,q4]));exact NQ):P:=h
def OY(h:P:=by
 have b9:=cb 9 _ rfl;have b10:=cb 10 _ rfl;have b11:=cb 11 _ rfl;have b12:=cb 12 _ rfl;have b13:=cb 13 _ rfl;exact OA):P:=h
def ahF(h:P:=by
 have qkt:=Zf (ZK ZE kt'.out);have hz:=Zf ZE;clear hX ca cb ZE kt';go_wp2_with (first|(go_at_call 126;with_reducible refine (qkt.out _).mono ?_;rintro r w' ⟨rfl,x,rfl⟩));exact EP):P:=h
def ahG(h:P:=by
 have qkt:=Zf (ZK ZE kt'.out);have hz:=Zf ZE;clear hX ca cb ZE kt';go_wp2_with (first|(go_at_call 125;with_reducible refine (qkt.out _).mono ?_;rintro r w' ⟨rfl,x,rfl⟩));exact EP):P:=h
def ahH(h:P:=by
 have qkt:=Zf (ZK ZE kt'.out);have qkg:=Zf (Xf ZE kg'.out);have hz:=Zf ZE;clear hX ca cb ZE kt' kg';go_upto_region 3 with (fail)
 refine Wj 6 asC asC ?_;exact tT):P:=h
def ahI(h:P:=by
 have qkt:=Zf (Xf ZE kt'.out);have hz:=Zf ZE;clear hX ca cb ZE kt';have hfl:∀W,(Instr.field 75 (.agg #[.int .i64 tw,.bool tt,.bool tf]) 1).run Zx W=.ok (.bool tt) W:=fun W=>by
  kernel_rfl
 go_wp2_with fail;refine (qkt.out _).mono ?_;rintro r w' ⟨rfl,x1,rfl⟩;clear qkt;go_wp2_with fail;cases tt with
 | true =>
  refine (Vq X 9 x1).mono ?_;rintro r w' ⟨rfl,x2,rfl⟩;go_wp2;go_end0;exact⟨by simp[Yl],atE⟩
 | false =>
  refine (UD X 9 x1).mono ?_;rintro r w' ⟨rfl,x2,rfl⟩;go_wp2;exact⟨rfl,by simp[Yl],atE⟩):P:=h
def ahJ(h:P:=by
 have qkt:=Zf (Xf ZE kt'.out);have hz:=Zf ZE;clear hX ca cb ZE kt';by_cases r0:R=0
 ·subst r0
  go_wp2_with fail;refine (qkt.out _).mono ?_;exact tN
 ·go_wp2_with fail
  refine (qkt.out _).mono ?_;exact tQ):P:=h
def ahK(h:P:=by
 have hz:=Zf ZE;clear hX ca cb ZE ;exact Dy):P:=h
def vW(h:P:=by
 clear hR hs hb h0;refine callsIn_of_wp func73 rfl trivial ?_ rfl;simp only[ntmps73,List.size_toArray,Zk,Zl,Nat.reduceAdd,Nat.reduceSub,Array.replicate_succ,Array.replicate_zero,List.push_toArray,List.append_toArray,List.nil_append,List.cons_append];gi_wp2;refine⟨trivial,rfl,CallsIn.mono (q1.out _) ?_⟩;exact Al):P:=h
def ahL(h:P:=by
 rintro e w1 (⟨rfl,hJ1,hk1⟩|⟨rfl,hx⟩)
 ·have Wp:=hk1
  have d1:=TH Yi.out _ _ Wp 1 _ rfl;have q2:=Zf (Mb l 5 (a:Int) n ZO.out S J Jx (k+1) w1 (ZR.out.parts Wr.out.tail.left) hJ1);open Z renaming al7→NW in exact MB
 ·exact IJ):P:=h
def ahM(h:P:=by
 rintro e w1 (⟨rfl,hJ1,hk1⟩|⟨rfl,hx⟩)
 ·have Wp:=hk1
  have d1:=QO Yi.out _ _ Wp 1 _ rfl;have q2:=Zf (Mc l 5 (a:Int) n ZO.out S J Jx (k+1) w1 (ZR.out.parts Wr.out.tail.left) hJ1);open Z renaming ama→NW in exact MB
 ·exact IJ):P:=h
def vY(h:P:=by
 clear hR hs hb h0;refine callsIn_of_wp func77 rfl trivial ?_ rfl;simp only[ntmps77,List.size_toArray,Zk,Zl,Nat.reduceAdd,Nat.reduceSub,Array.replicate_succ,Array.replicate_zero,List.push_toArray,List.append_toArray,List.nil_append,List.cons_append];gi_wp2;refine⟨trivial,rfl,CallsIn.mono (q1.out _) ?_⟩;exact Am):P:=h
def ahN(h:P:=by
 rintro e w1 (⟨rfl,hJ1,hk1⟩|⟨rfl,hx⟩)
 ·have Wp:=hk1
  have d1:=TH Yi.out _ _ Wp 1 _ rfl;have q2:=Zf (Mb l 12 (a:Int) n ZO.out S J Jx (k+1) w1 (ZR.out.parts Wr.out.tail.left) hJ1);open Z renaming al8→NW in exact MB
 ·exact IJ):P:=h
def ahO(h:P:=by
 rintro e w1 (⟨rfl,hJ1,hk1⟩|⟨rfl,hx⟩)
 ·have Wp:=hk1
  have d1:=QO Yi.out _ _ Wp 1 _ rfl;have q2:=Zf (Mc l 12 (a:Int) n ZO.out S J Jx (k+1) w1 (ZR.out.parts Wr.out.tail.left) hJ1);open Z renaming amb→NW in exact MB
 ·exact IJ):P:=h
def vZ(h:P:=by
 clear hR hs hb h0;refine callsIn_of_wp func75 rfl trivial ?_ rfl;simp only[ntmps75,List.size_toArray,Zk,Zl,Nat.reduceAdd,Nat.reduceSub,Array.replicate_succ,Array.replicate_zero,List.push_toArray,List.append_toArray,List.nil_append,List.cons_append];gi_wp2;refine⟨trivial,rfl,CallsIn.mono (q1.out _) ?_⟩;exact An):P:=h
def ahP(h:P:=by
 rintro e w1 (⟨rfl,hJ1,hk1⟩|⟨rfl,hx⟩)
 ·have Wp:=hk1
  have d1:=TH Yi.out _ _ Wp 1 _ rfl;have q2:=Zf (Mb l 9 (a:Int) n ZO.out S J Jx (k+1) w1 (ZR.out.parts Wr.out.tail.left) hJ1);open Z renaming al9→NW in exact MB
 ·exact PK):P:=h
def ahQ(h:P:=by
 rintro e w1 (⟨rfl,hJ1,hk1⟩|⟨rfl,hx⟩)
 ·have Wp:=hk1
  have d1:=QO Yi.out _ _ Wp 1 _ rfl;have q2:=Zf (Mc l 9 (a:Int) n ZO.out S J Jx (k+1) w1 (ZR.out.parts Wr.out.tail.left) hJ1);open Z renaming amc→NW in exact MB
 ·exact PK):P:=h
def ua(h:P:=by
 have hr:=hA.row;obtain⟨p,cap,l⟩:=A;simp only[Sl.v]at hl hf hr ⊢;obtain⟨n,hn⟩:=ZB l.length;rw[hn]at hl ⊢;have Xs:=aaN m l n hn;have Wi:=Zf hf;have ZO:=Zf hn;have Yt:=Zf hl;have XV:=Zf hr;have Vn:=Zf hS;have Yi:=Zf hb;have Tv:=Zf hJ;have hall':=Zf Xs;exact Ao):P:=h
def ahR(h:P:=by
 have YM:J (Ym+Xd m l 0) W:=by rw[EA];exact h0
 have YY:=Zf hC;clear hf hn hl hr hA hS hb hJ Xs h0 hC;exact Rj):P:=h
def ahS(h:P:=by
 have YM:J (Ym+Xd m l 0) W:=by rw[EA];exact h0
 exact zx):P:=h
def E5(h:P:=by
 have d0:=fun y=>(hc.plus y).c0 _ rfl;have d1:=fun y=>(hc.plus y).cs 0 _ rfl;have d2:=fun y=>(hc.plus y).cs 1 _ rfl;have d3:=fun y=>(hc.plus y).cs 2 _ rfl;have d4:=fun y=>(hc.plus y).cs 3 _ rfl;exact Gx):P:=h
def ahT(h:P:=by
 simp only[Sl.v]at d0 d1 d2 d3 d4;have a6:=Zf (Y7 k ns ZC bs'.out);have a5:Sa.sz ⟨nm,⟨kp,kc,kl⟩,tX9,⟨yp,yc,yl⟩,⟨zp,zc,zl⟩⟩=1+nm.size+(kl.map Y1).sum+tX9.size+(yl.map Ex.wt).sum+(zl.map Ca.sz).sum:=rfl;have b0:YT Sa.sz B2 sl (k+1)≤1048576:=by have h1:=Vn.out;have h2:=Yi.out;have h3:=hZ'.out;have h4:=hB1'.out;have h5:=hB2'.out;omega
 obtain⟨KK,hKK⟩:=ZB ((kl.map Y1).sum);obtain⟨Y,hY⟩:=ZB ((yl.map Ex.wt).sum);obtain⟨X,hX⟩:=ZB ((zl.map Ca.sz).sum);rw[hKK,hY,hX]at a5;obtain⟨ny,hny⟩:=ZB yl.length;obtain⟨nz,hnz⟩:=ZB zl.length;rw[hny]at d3;rw[hnz]at d4;have by_:=Zf (show ny≤1048576 by have:=XM Ex.wt Ex.wt_pos yl;omega);have bz_:=Zf (show nz≤1048576 by have:=XM Ca.sz El zl;omega);obtain⟨N1,TK⟩:=ZB (YT Sa.sz B2 sl (k+1));rw[TK]at b0 a3 a4;obtain⟨N0,hN0⟩:=ZB (YT Sa.sz B2 sl k);rw[hN0]at a3 ⊢;have a3':N1=N0+1+nm.size+tX9.size+KK+Y+X:=asB;have a3h:=Zf a3';have b0h:=Zf b0;have hN1h:=Zf TK;have SB:=Zf (And.intro hY (And.intro hny (And.intro hX hnz)));have hKh:=Zf hKK;have xth:=Zf xt;have xkh:=Zf xk;have xch:=Zf xc;clear a3 a3' a4 a5 b0 TK hN0 hY hX hny hnz hKK xt xk xc hx hc;go_wp2_with fail;obtain⟨V,hV,hBV,hsV,cv,fv⟩:=WS (plus W y) _ 61;obtain⟨zv,hzv⟩:=Yy hBV;rw[ZD]at hzv;rw[←hV];have v0:=cv 0 (some (.string nm)) rfl;have v1:=cv 1 (some (.slice kp kl.length kc)) rfl;have v2:=cv 2 (some (.string tX9)) rfl;have v3:=cv 3 (some (.slice yp ny yc)) rfl;have v4:=cv 4 (some (.slice zp nz zc)) rfl;open Z renaming aja→AB in exact uC):P:=h
def ahU(h:P:=by
 simp only[Sl.v]at d0 d1 d2 d3 d4;have a6:=Zf (Y7 k nt ZC bt'.out);have a5:Ta.sz ⟨nm,⟨yp,yc,yl⟩,⟨kp,kc,kl⟩,⟨dn,⟨gp,gc,gl⟩⟩⟩=1+nm.size+(yl.map Ke.sz).sum+(kl.map Y1).sum+(dn.size+gl.length):=by rw[←Ei (fun _:Lt=>1) (fun _=>rfl) gl];rfl
 have b0:YT Ta.sz B6 tl (k+1)≤1048576:=by have h1:=WB.out;have h2:=Yi.out;have h3:=hZ'.out;have h4:=hB1'.out;have h5:=hB2'.out;have h6:=hB5'.out;have h7:=hB6'.out;omega
 obtain⟨KK,hKK⟩:=ZB ((kl.map Y1).sum);obtain⟨Y,hY⟩:=ZB ((yl.map Ke.sz).sum);rw[hKK,hY]at a5;obtain⟨ny,hny⟩:=ZB yl.length;rw[hny]at d1;have by_:=Zf (show ny≤1048576 by have:=XM Ke.sz En yl;omega);obtain⟨N1,TK⟩:=ZB (YT Ta.sz B6 tl (k+1));rw[TK]at b0 a3 a4;obtain⟨N0,hN0⟩:=ZB (YT Ta.sz B6 tl k);rw[hN0]at a3 ⊢;have a3':N1=N0+1+nm.size+KK+dn.size+gl.length+Y:=asB;have a3h:=Zf a3';have b0h:=Zf b0;have hN1h:=Zf TK;have SB:=Zf (And.intro hY hny);have hKh:=Zf hKK;have xth:=Zf xt;have xkh:=Zf xk;clear a3 a3' a4 a5 b0 TK hN0 hY hny hKK xt xk hx hc;go_wp2_with fail;obtain⟨V,hV,hBV,hsV,cv,fv⟩:=WS (plus W y) _ 58;obtain⟨zv,hzv⟩:=Yy hBV;rw[ZD]at hzv;rw[←hV];have v0:=cv 0 (some (.string nm)) rfl;have v1:=cv 1 (some (.slice yp ny yc)) rfl;have v2:=cv 2 (some (.slice kp kl.length kc)) rfl;have v3:=cv 3 (some (.string dn)) rfl;have v4:=cv 4 (some (.slice gp gl.length gc)) rfl;open Z renaming ajb→AB in exact uC):P:=h
def ahV(h:P:=by
 have d5:=fun y=>(hc.plus y).cs 4 _ rfl;have d6:=fun y=>(hc.plus y).cs 5 _ rfl;have d7:=fun y=>(hc.plus y).cs 6 _ rfl;have d8:=fun y=>(hc.plus y).cs 7 _ rfl;exact N6):P:=h
def ud(h:P:=by
 have hy':=Zf hy;have ZO:=Zf hn;clear hy hn;refine callsIn_of_wp func144 rfl trivial ?_ rfl;simp only[ntmps144,List.size_toArray,Zk,Zl,Nat.reduceAdd,Nat.reduceSub,Array.replicate_succ,Array.replicate_zero,List.push_toArray,List.append_toArray,List.nil_append,List.cons_append];gi_wp2;exact Ap):P:=h
def ahW(h:P:=by
 gi_loopw [9,11] (fun _ iv wr=>∃j:Nat,j≤n∧iv=.int .i64 (j:Int)∧J (k+j) wr∧Kq S W wr) (fun _ iv _=>n-(intOf iv).toNat)
 case atStart=>exact⟨0,Zw _,rfl,h0,Kq.refl _ _⟩
 case round =>
  exact ub):P:=h
def ahX(h:P:=by
 gi_loopw [9,11] (fun _ iv wr=>∃j:Nat,j≤n∧iv=.int .i64 (j:Int)∧J (k+j) wr∧Kr S W wr) (fun _ iv _=>n-(intOf iv).toNat)
 case atStart=>exact⟨0,Zw _,rfl,h0,Kr.refl _ _⟩
 case round =>
  exact ub):P:=h
def IG(h:P:=by
 intro y0;have h0:=h0.up y0;have h1:=h1.up y0;have h2:=h2.up y0;have h3:=h3.up y0;obtain⟨V,hV⟩:=ZB (plus w y0);rw[hV]at h0 h1 h2 h3 ⊢;clear hV;exact Jb):P:=h
def ahY(h:P:=by
 obtain⟨R,hR⟩:=ZB (((s0)&&((s1)&&((s2)&&((s3)&&((a8n:Int)==fa))))));rw[hR];cases s0
 case false =>
  exact pL
 case true =>
  cases s1
  case false =>
   exact pQ
  case true =>
   cases s2
   case false =>
    exact pS
   case true =>
    cases s3
    case false =>
     exact pV
    case true =>
     by_cases q1:((a8n:Int)==fa)=true
     case neg =>
      have q1:((a8n:Int)==fa)=false:=asJ;exact D9
     case pos =>
      open Z renaming D8→SJ in exact SW):P:=h
def ahZ(h:P:=by
 have hn3:((a8n:Int)==2)=false:=by first|(simp;done)|(simp;omega)
 obtain⟨R,hR⟩:=ZB (false);rw[hR];cases s0
 case false =>
  exact pL
 case true =>
  cases s1
  case false =>
   exact pQ
  case true =>
   cases s2
   case false =>
    exact pS
   case true =>
    cases s3
    case false =>
     exact pV
    case true =>
     by_cases q1:((a8n:Int)==2)=true
     case neg =>
      have q1:((a8n:Int)==2)=false:=asJ;exact D9
     case pos =>
      exact D9):P:=h
def ah0(h:P:=by
 open Z renaming adr→Oy in exact OW):P:=h
def ah1(h:P:=by
 open Z renaming ads→Oy in exact OW):P:=h
def Mw(h:P:=by
 go_enter func23,ntmps23;go_upto_region 1 with (fail)
 obtain⟨W,yW,eW,⟨zW,Yn⟩,cg,ce⟩:=Xu V _ _ 30 49;exact NR):P:=h
def ah2(h:P:=by
 open Z renaming anZ→RS in exact Qe):P:=h
def ah3(h:P:=by
 open Z renaming an1→RS in exact Qe):P:=h
def ah4(h:P:=by
 open Z renaming an2→RS in exact Qe):P:=h
def ah5(h:P:=by
 open Z renaming an3→RS in exact Qe):P:=h
def ah6(h:P:=by
 open Z renaming an4→RS in exact Qe):P:=h
def ah7(h:P:=by
 open Z renaming an5→RS in exact Qe):P:=h
def IH(h:P:=by
 intro y0;have h1:=h1.up y0;obtain⟨V,hV⟩:=ZB (plus w y0);rw[hV]at h1 ⊢;clear hV;have YA:=Zf h1;clear h1;go_enter func40,ntmps40;exact Jd):P:=h
def ah8(h:P:=by
 open Z renaming am5→Wl in exact Wn):P:=h
def ah9(h:P:=by
 open Z renaming am6→Wl in exact Wn):P:=h
def aia(h:P:=by
 open Z renaming am7→Wl in exact Wn):P:=h
def aib(h:P:=by
 open Z renaming am8→Wl in exact Wn):P:=h
def ug(h:P:=by
 have hf:=ZS hf y0;have hL:∀W z,W=plus (plus w y0) z→(Instr.lookup 113 (.map (some m)) (.int .u8 a0) true).run Zx W=.ok (.tuple #[.agg #[.bool fl,.bool fs,.int .u8 fh,.int .u8 fn,.int .i64 fa,.bool fx],.bool is]) W:=fun W z hW=>hL W _ (hW.trans (ZD _ _ _));obtain⟨V,hV⟩:=ZB (plus w y0);exact Aq):P:=h
def aic(h:P:=by
 rw[hV]at hf hL ⊢;open Z renaming ail→Av in exact ul):P:=h
def aid(h:P:=by
 rw[hV]at h0 hE hf hL ⊢;open Z renaming aim→Av in exact ul):P:=h
def uh(h:P:=by
 go_enter func99,ntmps99;go_wp2_with fail;obtain⟨X,Y0,hX,⟨zX,ZE⟩,ca⟩:=YO V _ 42;rw[hX];have d0:=ca 0 _ rfl;have d1:=ca 1 _ rfl;have d2:=ca 2 _ rfl;have hz:=Zf ZE;clear hX ca ZE;go_wp2_with fail;refine (kl'.out.at X _).mono ?_;rintro r w' ⟨rfl,x1,rfl⟩;clear kl';go_wp2_with fail;exact Ar):P:=h
def aie(h:P:=by
 refine (Vq X 0 x1).mono ?_;rintro r w' ⟨rfl,x2,rfl⟩;exact tK):P:=h
def aif(h:P:=by
 refine (UD X R x1).mono ?_;rintro r w' ⟨rfl,x2,rfl⟩;go_wp2;exact⟨rfl,rfl,atE⟩):P:=h
def II(h:P:=by
 have ZR:=Zf hR;have Wr:=Zf hs;have Yi:=Zf hb;have ZO:=Zf hn;have UR:=Zf hm;have t1:=hs.tail.right;rw[Q1]at t1;exact Je):P:=h
def aig(h:P:=by
 have t1':=Zf t1;clear t1 hn hm;have q1:=Zf (fun o:Obj=>Pu l 4 (a:Int) S J Jx k (W.alloc o) (hR.one hs.head (UB hR.lays h0 o)));open Z renaming ahL→Al in exact vW):P:=h
def aih(h:P:=by
 have t2:=t1.right;rw[Q1]at t2;have t1':=Zf t1;have t2':=Zf t2;clear t1 t2 hn hm;have q1:=Zf (fun o:Obj=>Pu l 11 (a:Int) S J Jx k (W.alloc o) (hR.one hs.head (UB hR.lays h0 o)));open Z renaming ahN→Am in exact vY):P:=h
def aii(h:P:=by
 have t1':=Zf t1;clear t1 hn hm;have q1:=Zf (fun o:Obj=>Pv l 4 (a:Int) S J Jx k (W.alloc o) (hR.one hs.head (UB hR.lays h0 o)));open Z renaming ahM→Al in exact vW):P:=h
def aij(h:P:=by
 have t2:=t1.right;rw[Q1]at t2;have t1':=Zf t1;have t2':=Zf t2;clear t1 t2 hn hm;have q1:=Zf (fun o:Obj=>Pv l 11 (a:Int) S J Jx k (W.alloc o) (hR.one hs.head (UB hR.lays h0 o)));open Z renaming ahO→Am in exact vY):P:=h
def uk(h:P:=by
 go_wp2_with (first|(go_at_call 104;with_reducible refine (q0c.out _).mono ?_;rintro r w' ⟨rfl,x,rfl⟩)|(go_at_call 109;with_reducible refine (q1c.out _).mono ?_;rintro r w' ⟨rfl,x,rfl⟩)|(go_at_call 104;with_reducible refine (q2c.out _).mono ?_;rintro r w' ⟨rfl,x,rfl⟩));exact Au):P:=h
def aik(h:P:=by
 go_meet;first|exact⟨congrArg Zy hF.out,_,rfl⟩|exact⟨congrArg Zy (Eq.trans (by simp[q1,q2,q3,q4,q7]) hF.out),_,rfl⟩):P:=h
def L7(h:P:=by
 have hF:=Zf (show (false)=R by first|exact hR|(rw[←hR];simp[q1,q2,q3,q4,q5]));exact Lm):P:=h
def ul(h:P:=by
 clear hV;have Uw:=fun a b=>YG (YG hf a) b;have hL2:∀a b,(Instr.lookup 113 (.map (some m)) (.int .u8 a0) true).run Zx ((V.alloc a).alloc b)=.ok (.tuple #[.agg #[.bool fl,.bool fs,.int .u8 fh,.int .u8 fn,.int .i64 fa,.bool fx],.bool is]) ((V.alloc a).alloc b):=fun a b=>by
  exact Cd
 exact Av):P:=h
def ail(h:P:=by
 open Z renaming aq8→TU in exact T2):P:=h
def aim(h:P:=by
 open Z renaming aq9→TU in exact T2):P:=h
def E6(h:P:=by
 have q6:(a3==0)=false:=by simpa using q6
 have hF:=Zf (show (false)=R by first|exact hR|(rw[←hR];simp[q1,q2,q3,q4,q5,q6]));exact Gy):P:=h
def OZ(h:P:=by
 have q0c:=Zf (ZK hz h0.out);have q1c:=Zf (ZK hz h1.out);have q2c:=Zf (ZK hz h2.out);exact OB):P:=h
def ain(h:P:=by
 have q3c:=Zf (ZK hz h3.out);exact pU):P:=h
def aio(h:P:=by
 open Z renaming pR→Ls in exact Kj):P:=h
def aip(h:P:=by
 have q3c:=Zf (ZK hz h3.out);open Z renaming pU→Ls in exact Kj):P:=h
def aiq(h:P:=by
 have q3c:=Zf (ZK hz h3.out);have q4c:=Zf (ZK hz h4.out);open Z renaming anT→Ls in exact Kj):P:=h
def air(h:P:=by
 have ZN:=Zf hz;clear hW hz cb0;refine (q0c.out _).mono ?_;rintro r w' ⟨rfl,x1,rfl⟩;go_wp2_with (first|(go_at_call 109;with_reducible refine (q1c.out _).mono ?_;rintro r w' ⟨rfl,x,rfl⟩)|(go_at_call 170;with_reducible refine (q2c.out _).mono ?_;rintro r w' ⟨rfl,x,rfl⟩));exact XO):P:=h
def ais(h:P:=by
 have ZN:=Zf hz;clear hW hz cb0 cb1;refine (q0c.out _).mono ?_;rintro r w' ⟨rfl,x1,rfl⟩;go_wp2_with (first|(go_at_call 55;with_reducible refine (q1c.out _).mono ?_;rintro r w' ⟨rfl,x,rfl⟩)|(go_at_call 63;with_reducible refine (q2c.out _).mono ?_;rintro r w' ⟨rfl,x,rfl⟩));exact XO):P:=h
def uo(h:P:=by
 clear hf hn hl hr hA hS hb hJ Xs h0;refine callsIn_of_wp func79 rfl trivial ?_ rfl;simp only[ntmps79,List.size_toArray,Zk,Zl,Nat.reduceAdd,Nat.reduceSub,Array.replicate_succ,Array.replicate_zero,List.push_toArray,List.append_toArray,List.nil_append,List.cons_append];gi_wp2;exact Aw):P:=h
def ait(h:P:=by
 gi_loopw [5,6,9] (fun _ _ iv wr=>∃i:Nat,i≤n∧iv=.int .i64 (i:Int)∧J (Ym+Xd m l i) wr∧Kq S W wr) (fun _ _ iv _=>n-(intOf iv).toNat)
 case atStart=>exact⟨0,Zw _,rfl,YM,Kq.refl _ _⟩
 case round =>
  obtain⟨i,hi,rfl,Xq,hK⟩:=hrel;by_cases ZC:i<n
  ·obtain⟨a,ha⟩:=Yq l i asG
   obtain⟨pa,rfl,We⟩:=XV.out i a ha;have hc:=JC (hw.trans hK) Vn.out We;exact uj
  ·exact Sq):P:=h
def aiu(h:P:=by
 gi_loopw [5,6,9] (fun _ _ iv wr=>∃i:Nat,i≤n∧iv=.int .i64 (i:Int)∧J (Ym+Xd m l i) wr∧Kr S W wr) (fun _ _ iv _=>n-(intOf iv).toNat)
 case atStart=>exact⟨0,Zw _,rfl,YM,Kr.refl _ _⟩
 case round =>
  obtain⟨i,hi,rfl,Xq,hK⟩:=hrel;by_cases ZC:i<n
  ·obtain⟨a,ha⟩:=Yq l i asG
   obtain⟨pa,rfl,We⟩:=XV.out i a ha;have hc:=Fk (hw.trans hK) Vn.out We;exact uj
  ·exact Sq):P:=h
def O0(h:P:=by
 have Yv:=YR ZG Yo.out;have d0:=fun y=>(Yv.plus y).c0 _ rfl;have d1:=fun y=>(Yv.plus y).cs 0 _ rfl;exact OC):P:=h
def aiv(h:P:=by
 have W4:=YR ZG Vc.out;have e0:=fun y=>(W4.plus y).c0 _ rfl;have e1:=fun y=>(W4.plus y).cs 0 _ rfl;open Z renaming aji→Jg in exact IM):P:=h
def aiw(h:P:=by
 open Z renaming af5→Oz in exact OX):P:=h
def aix(h:P:=by
 have d2:=fun y=>(Yv.plus y).cs 1 _ rfl;open Z renaming af6→Oz in exact OX):P:=h
def aiy(h:P:=by
 have d2:=fun y=>(Yv.plus y).cs 1 _ rfl;have W4:=YR ZG Vc.out;have e0:=fun y=>(W4.plus y).c0 _ rfl;have e1:=fun y=>(W4.plus y).cs 0 _ rfl;open Z renaming ajj→Jg in exact IM):P:=h
def aiz(h:P:=by
 open Z renaming af8→Oz in exact OX):P:=h
def aiA(h:P:=by
 open Z renaming alU→Jp in exact I6):P:=h
def aiB(h:P:=by
 open Z renaming akE→AV in exact uZ):P:=h
def E7(h:P:=by
 simp only[Zs,List.take_zero,Zg,Zh];repeat (go_big_quiet_step (first|(with_reducible exact q1.out _)))
 refine wpQuiet_nil ?_;rintro _ ⟨y1,rfl⟩;exact Gz):P:=h
def aiC(h:P:=by
 go_wp2;exact re):P:=h
def aiD(h:P:=by
 by_cases WH:E=0
 case neg =>
  have YH:(E !=0)=true:=by simpa using WH
  go_wp2;go_ret;exact⟨congrArg (fun z=>Zd (Zz .i64 z)) (YM.out WH),as6⟩
 case pos =>
  have h1s:=Zf (YA.out WH);have h2s:=Zf (Xg.out WH);subst WH;clear YM YA Xg q1;go_wp2;go_loopw [10] (fun iv wr=>∃j:Nat,j≤b∧iv=.int .i64 (j:Int)∧(∃z,wr=plus W z)∧Hid (∀i y,i<j→t.keys.l[i]?=some y→¬(y.kind=2∧k.kind=2))) (fun iv _=>b-(intOf iv).toNat)
  case atStart=>exact⟨0,Zw _,rfl,⟨_,rfl⟩,Zf (fun j y h=>absurd h (Nat.not_lt_zero j))⟩
  case round =>
   obtain⟨j,hj,rfl,⟨zr,rfl⟩,hJ⟩:=hrel;by_cases Ub:j<b
   ·obtain⟨y,hy⟩:=Yq t.keys.l j asB
    obtain⟨ka2,hka2,YZ⟩:=Xi.out j y hy;obtain rfl:ka2=ka:=Option.some.inj (hka2.symm.trans hka'.out);have y9:∀z,(plus W z).cell? ⟨(ka2.add (j*10)).block,(ka2.add (j*10)).off+9,none⟩=some (.int .u8 y.kind):=fun z=>(YZ.plus z).cs 8 _ rfl;have a6:=Zf (Y7 j b Ub Yi.out);have hnegj:¬((j:Int)<0):=asB;have hltj:j<t.keys.l.length:=asB;have Xc:=Zf (fun (h:¬(y.kind=2∧k.kind=2))=>(fun i z (hi:i<j+1) (hz:t.keys.l[i]?=some z)=>by
     by_cases hij:i<j
     ·exact hJ.out i z hij hz
     ·obtain rfl:i=j:=by omega
      rw[hy]at hz;obtain rfl:=Option.some.inj hz;exact h:∀i z,i<j+1→t.keys.l[i]?=some z→¬(z.kind=2∧k.kind=2)))
    have h2y:=Zf (h2s.out j y Ub hy);clear YZ hy hka2;obtain⟨ye,yk⟩:=y;obtain⟨ke,kk⟩:=k;simp only at y9 d9 Xc h2y;by_cases e1:yk=2
    case neg =>
     have e2:(yk==2)=false:=by simpa using e1
     go_wp2;go_roundw
     case rel=>exact⟨j+1,Ub,congrArg (Zz .i64) a6.out,⟨_,rfl⟩,Zf (Xc.out (fun h=>e1 h.1))⟩
     case measure=>exact Y9 j b Ub a6.out
    case pos =>
     by_cases e3:kk=2
     case pos =>
      have h8:=Zf (h2y.out e1 e3);clear h2y Xc;subst e1 e3;go_wp2;go_ret;exact⟨congrArg (fun z=>Zd (Zz .i64 z)) (h8.out),as6⟩
     case neg =>
      subst e1;have e4:(kk==2)=false:=by simpa using e3
      go_wp2;go_roundw
      case rel=>exact⟨j+1,Ub,congrArg (Zz .i64) a6.out,⟨_,rfl⟩,Zf (Xc.out (fun h=>e3 h.2))⟩
      case measure=>exact Y9 j b Ub a6.out
   ·obtain rfl:j=b:=by omega
    go_wp2;go_ret;exact⟨congrArg (fun z=>Zd (Zz .i64 z)) (h1s.out hJ.out),as6⟩):P:=h
def aiE(h:P:=by
 obtain⟨n,hnn⟩:=ZB x.params.l.length;have XK:=Yt.out;rw[hnn]at XK;rw[XK]at t1;rw[hnn]at x1 ZO ⊢;have TA:=Zf hnn;have Ve:=Zf XK;clear hnn XK q1 VY Yt g0 g1 g2 g3 g4 g5 g6;go_wp2;go_loopw [13,14] (fun iv _ wr=>∃k:Nat,k≤n∧iv=.int .i64 (k:Int)∧(∃z,wr=plus X z)∧Hid (∀j y,j<k→(Ts t.dflt.args.l x.params.l)[j]?=some y→y=0)) (fun iv _ _=>n-(intOf iv).toNat)
 case atStart=>exact⟨0,Zw _,rfl,⟨_,rfl⟩,Zf (fun j y h=>absurd h (Nat.not_lt_zero j))⟩
 case round =>
  obtain⟨k,hk,rfl,⟨zr,rfl⟩,hJ⟩:=hrel;by_cases Ub:k<n
  ·obtain⟨u,hu⟩:=Yq t.dflt.args.l k (by rw[Ve.out];exact Ub)
   obtain⟨v,hv⟩:=Yq x.params.l k (by rw[TA.out];exact Ub);obtain⟨pu,hpu,hcu⟩:=hrlX.out k u hu;obtain⟨pv,hpv,hcv⟩:=hrpX.out k v hv;have Vw:=HC t.dflt.args.l x.params.l k u v hu hv;obtain⟨WH,hz0⟩:=(show ∃WH:ZH,X=plus X WH from⟨_,(Yk X).symm⟩);have q2:=Zf (ZK hz0 (kLX.out u (Zo hu) v.w));obtain⟨E,hE⟩:=ZB (Wg u v.w);rw[hE]at q2 Vw;have Vf:=Zf Vw;have a6:=Zf (Y7 k n Ub ZO.out);have u0:∀y,(plus X y).cell? (pu.add (k*3))=some (.int .i64 u.w):=fun y=>(hcu.plus y).c0 _ rfl;have u1:∀y,(plus X y).cell? ⟨(pu.add (k*3)).block,(pu.add (k*3)).off+1,none⟩=some (.int .u64 u.h):=fun y=>(hcu.plus y).cs 0 _ rfl;have u2:∀y,(plus X y).cell? ⟨(pu.add (k*3)).block,(pu.add (k*3)).off+2,none⟩=some (.int .u64 u.l):=fun y=>(hcu.plus y).cs 1 _ rfl;have v1:∀y,(plus X y).cell? ⟨(pv.add (k*2)).block,(pv.add (k*2)).off+1,none⟩=some (.int .i64 v.w):=fun y=>(hcv.plus y).cs 0 _ rfl;rw[hpu]at t1;rw[hpv];clear hcu hcv hE Vw hu hv hpu hpv hz0;have hnegk:¬((k:Int)<0):=asB;have hltk:(k:Int)<(n:Int):=asB;go_upto_region 30 with (fail)
   refine Wj 11 asC asC ?_;simp only[Zs,List.take_zero,Zg,Zh];repeat (go_big_quiet_step (first|(with_reducible exact q2.out _)))
   refine wpQuiet_nil ?_;rintro _ ⟨y2,rfl⟩;by_cases e0:E=0
   ·subst e0
    exact rj
   ·have e1:(E !=0)=true:=by simpa using e0
    go_wp2;go_ret;exact⟨congrArg (fun z=>Zd (Zz .i64 z)) ((Qk _ k E Vf.out hJ.out e0).symm.trans ZR.out),as6⟩
  ·obtain rfl:k=n:=by omega
   go_wp2;go_ret;exact⟨congrArg (fun z=>Zd (Zz .i64 z)) ((P0 _ fun j y hy=>hJ.out j y (by have h1:=(Zi.1 hy).1;have h2:=HD t.dflt.args.l x.params.l;have h3:=Ve.out;omega) hy).symm.trans ZR.out),as6⟩):P:=h
def uu(h:P:=by
 have ZC:w.heap.size+1<W.heap.size:=(Array.getElem?_eq_some_iff.1 hl).1;have hy:=run_yield (P:=P) (args:=#[encs x]) hl (by rw[hrec];exact hps.symm);rw[hrec]at hy;refine⟨fn,_,assign,body,hy,roundIn_of_wpIn hfn (wpIn_mono (hround _ k x W asB ZC hx hi) ?_)⟩;clear hy;rintro e a' Wa hp;exact Ax):P:=h
def aiF(h:P:=by
 cases e with
 | normal =>
  obtain⟨hkfa,hkpa,hbody⟩:=hp;have Yt:=hkfa.same _ _ asB hl rfl;have SD:=hkfa.same _ _ (Zt _) hk rfl;have Qq:w.heap.size+1<Wa.heap.size:=(Array.getElem?_eq_some_iff.1 Yt).1;refine⟨_,run_beginRound Yt (by rw[hrec]),?_⟩;have XK:(Wa.putObj (w.heap.size+1) (.loop { rec .ready none with state:=.busy })).heap[w.heap.size+1]?=some (.loop { rec .ready none with state:=.busy }):=World.putObj_heap_same Qq;have Yp:(Wa.putObj (w.heap.size+1) (.loop { rec .ready none with state:=.busy })).heap[w.heap.size]?=some (.deferred (some [])):=(World.putObj_heap_other asB).trans SD;have UT:∀T:Nat→Prop,T (w.heap.size+1)→Kq T Wa (Wa.putObj (w.heap.size+1) (.loop { rec .ready none with state:=.busy })):=fun T ht=>Kq.putObj _ Yt rfl rfl ht;refine wpIn_mono (hbody _ (UT _ rfl) asD) ?_;have fin:∀(jump:Option Code) (W3:World),KeepsFrom w.heap.size (Wa.putObj (w.heap.size+1) (.loop { rec .ready none with state:=.busy })) W3 →
    (Instr.endRound (w.heap.size+1) jump).run P W3=.ok (.bool jump.isNone) (W3.putObj (w.heap.size+1) (.loop (rec (if jump.isNone then .ready else .done) jump))) ∧
    W3.heap[w.heap.size+1]?=some (.loop { rec .ready none with state:=.busy }) ∧
    (W3.putObj (w.heap.size+1) (.loop (rec (if jump.isNone then .ready else .done) jump))).heap[w.heap.size+1]?=some (.loop (rec (if jump.isNone then .ready else .done) jump)) ∧
    (W3.putObj (w.heap.size+1) (.loop (rec (if jump.isNone then .ready else .done) jump))).heap[w.heap.size]?=some (.deferred (some [])):=fun jump W3 Xi=>by
   have Ve:=Xi.same _ _ asB XK rfl;have:=run_endRound (P:=P) jump Ve;rw[hrec]at this ⊢;exact⟨this,by rw[hrec]at Ve;exact Ve,World.putObj_heap_same (Array.getElem?_eq_some_iff.1 Ve).1,(World.putObj_heap_other asB).trans (Xi.same _ _ (Zt _) Yp rfl)⟩
  rintro e a3 W3 hp;cases e with
  | normal =>
   obtain⟨Xi,hkp3,Vd⟩:=hp;obtain⟨hr,Ve,hl4,hk4⟩:=fin none W3 Xi;exact⟨_,_,hr,.inl ⟨rfl,⟨hI _ (w.heap.size+1) _ _ asB Vd (Kq.putObj _ Ve rfl rfl rfl),hl4,hk4⟩,((hkpa.mono fun _ h=>.inl h).trans ((UT _ (.inr rfl)).trans (hkp3.mono fun _ h=>.inl h))).trans (Kq.putObj _ Ve rfl rfl (.inr rfl))⟩⟩
  | ret =>
   obtain⟨Xi,Vd⟩:=hp;obtain⟨hr,Ve,hl4,hk4⟩:=fin (some .ret) W3 Xi;exact⟨_,_,hr,.inr ⟨rfl,k,hIx (w.heap.size+1) _ _ asB Vd (Kq.putObj _ Ve rfl rfl rfl),hl4,hk4⟩⟩
  | exit id=>exact hp.elim
  | goto t=>exact hp.elim
  | panic ch=>exact hp.elim
  | outgrown=>exact hp.elim
 | ret=>exact hp.elim
 | exit id=>exact hp.elim
 | goto t=>exact hp.elim
 | panic ch=>exact hp.elim
 | outgrown=>exact hp.elim):P:=h
def aiG(h:P:=by
 cases e with
 | normal =>
  obtain⟨hkfa,hkpa,hbody⟩:=hp;have Yt:=hkfa.same _ _ asB hl rfl;have SD:=hkfa.same _ _ (Zt _) hk rfl;have Qq:w.heap.size+1<Wa.heap.size:=(Array.getElem?_eq_some_iff.1 Yt).1;refine⟨_,run_beginRound Yt (by rw[hrec]),?_⟩;have XK:(Wa.putObj (w.heap.size+1) (.loop { rec .ready none with state:=.busy })).heap[w.heap.size+1]?=some (.loop { rec .ready none with state:=.busy }):=World.putObj_heap_same Qq;have Yp:(Wa.putObj (w.heap.size+1) (.loop { rec .ready none with state:=.busy })).heap[w.heap.size]?=some (.deferred (some [])):=(World.putObj_heap_other asB).trans SD;have UT:∀T:Bx,T.f (w.heap.size+1)→Kr T Wa (Wa.putObj (w.heap.size+1) (.loop { rec .ready none with state:=.busy })):=fun T ht=>Kr.putObj _ Yt ht;refine wpIn_mono (hbody _ (Ko.putObj _ Yt rfl rfl (Nat.le_succ _)) asD) ?_;have fin:∀(jump:Option Code) (W3:World),KeepsFrom w.heap.size (Wa.putObj (w.heap.size+1) (.loop { rec .ready none with state:=.busy })) W3 →
    (Instr.endRound (w.heap.size+1) jump).run P W3=.ok (.bool jump.isNone) (W3.putObj (w.heap.size+1) (.loop (rec (if jump.isNone then .ready else .done) jump))) ∧
    W3.heap[w.heap.size+1]?=some (.loop { rec .ready none with state:=.busy }) ∧
    (W3.putObj (w.heap.size+1) (.loop (rec (if jump.isNone then .ready else .done) jump))).heap[w.heap.size+1]?=some (.loop (rec (if jump.isNone then .ready else .done) jump)) ∧
    (W3.putObj (w.heap.size+1) (.loop (rec (if jump.isNone then .ready else .done) jump))).heap[w.heap.size]?=some (.deferred (some [])):=fun jump W3 Xi=>by
   have Ve:=Xi.same _ _ asB XK rfl;have:=run_endRound (P:=P) jump Ve;rw[hrec]at this ⊢;exact⟨this,by rw[hrec]at Ve;exact Ve,World.putObj_heap_same (Array.getElem?_eq_some_iff.1 Ve).1,(World.putObj_heap_other asB).trans (Xi.same _ _ (Zt _) Yp rfl)⟩
  rintro e a3 W3 hp;cases e with
  | normal =>
   obtain⟨Xi,hkp3,Vd⟩:=hp;obtain⟨hr,Ve,hl4,hk4⟩:=fin none W3 Xi;exact⟨_,_,hr,.inl ⟨rfl,⟨hI _ _ _ Vd (Ko.putObj _ Ve rfl rfl (Nat.le_succ _)),hl4,hk4⟩,((hkpa.add _).trans ((UT (S.add (w.heap.size+1)) (Or.inr rfl)).trans (hkp3.add _))).trans (Kr.putObj (S:=S.add (w.heap.size+1)) _ Ve (Or.inr rfl))⟩⟩
  | ret =>
   obtain⟨Xi,Vd⟩:=hp;obtain⟨hr,Ve,hl4,hk4⟩:=fin (some .ret) W3 Xi;exact⟨_,_,hr,.inr ⟨rfl,k,hIx _ _ Vd (Ko.putObj _ Ve rfl rfl (Nat.le_succ _)),hl4,hk4⟩⟩
  | exit id=>exact hp.elim
  | goto t=>exact hp.elim
  | panic ch=>exact hp.elim
  | outgrown=>exact hp.elim
 | ret=>exact hp.elim
 | exit id=>exact hp.elim
 | goto t=>exact hp.elim
 | panic ch=>exact hp.elim
 | outgrown=>exact hp.elim):P:=h
def E8(h:P:=by
 have Wc:=Zf hE;have XI:=Zf hB;have ZR:=Zf hR;clear hE hB hR;have h0:=Zf h0;have h1:=Zf h1;go_enter func173,ntmps173;go_upto_region 1 with (fail)
 exact GA):P:=h
def aiH(h:P:=by
 open Z renaming ao1→Qv in exact QF):P:=h
def aiI(h:P:=by
 open Z renaming ao2→Qv in exact QF):P:=h
def aiJ(h:P:=by
 open Z renaming ao4→Qv in exact QF):P:=h
def E9(h:P:=by
 rw[hW];have ca0:=ca 0 _ rfl;have ca1:=ca 1 _ rfl;have ca2:=ca 2 _ rfl;have cb0:=cb 0 _ rfl;have cb1:=cb 1 _ rfl;have cb2:=cb 2 _ rfl;have cb3:=cb 3 _ rfl;have cb4:=cb 4 _ rfl;exact GD):P:=h
def aiK(h:P:=by
 have cb5:=cb 5 _ rfl;have cb6:=cb 6 _ rfl;have cc0:=cc 0 _ rfl;have cc1:=cc 1 _ rfl;exact wA):P:=h
def aiL(h:P:=by
 have cb5:=cb 5 _ rfl;have cb6:=cb 6 _ rfl;have cb7:=cb 7 _ rfl;have cb8:=cb 8 _ rfl;have cb9:=cb 9 _ rfl;have cb10:=cb 10 _ rfl;have cb11:=cb 11 _ rfl;have cb12:=cb 12 _ rfl;have cb13:=cb 13 _ rfl;have cc0:=cc 0 _ rfl;have cc1:=cc 1 _ rfl;have cc2:=cc 2 _ rfl;have cc3:=cc 3 _ rfl;exact Fb):P:=h
def aiM(h:P:=by
 have q0:=Zf (ZK hz h0.out);have q1:=Zf (hE.out W z _ _ hz (fun j v hj=>by have:=ca j _ hj ⟨#[],W.drawn⟩;rwa [Yk]at this) (by have:=cb3 ⟨#[],W.drawn⟩;rwa [Yk]at this)).pure;have ZN:=Zf hz;clear hW hz ca cb h0 hE;exact BQ):P:=h
def uz(h:P:=by
 obtain⟨R,hR⟩:=hR;rw[hR]at hb RH ⊢;have Wf:=Zf (Yj.plus y0);have M7:=Zf RH;have Yi:=Zf hb;have ZO:=Zf hn;have Yt:=Zf hl;clear Yj RH hb hn hl hR h1 h2;obtain⟨W,hW⟩:=ZB (plus w y0);rw[hW]at Wf ⊢;have Uq:=Zf hW;clear hW;exact Ay):P:=h
def aiN(h:P:=by
 go_enter func13,ntmps13;go_wp2;have h0:(n:Int)=(YT ByteArray.size n l 0:Int):=as0;rw[show Zz .i64 (n:Int)=Zz .i64 (YT ByteArray.size n l 0:Int) from congrArg _ h0];go_loopw [3,4] (fun nv iv wr=>∃k:Nat,k≤n∧iv=.int .i64 (k:Int)∧nv=.int .i64 (YT ByteArray.size n l k:Int)∧wr=W) (fun _ iv _=>n-(intOf iv).toNat)
 case atStart=>exact⟨0,Zw _,rfl,rfl,rfl⟩
 case round =>
  obtain⟨k,hk,rfl,rfl,rfl⟩:=hrel;by_cases ZC:k<n
  ·obtain⟨s,hs⟩:=Yq l k asG
   obtain⟨a,rfl,hc⟩:=Wf.out k s hs;have d0:=hc.c0 _ rfl;simp only[Nat.mul_one]at d0;have a3:=R4 ByteArray.size n l k s hs;have a4:=RZ ByteArray.size n l (k+1);have a6:=Y7 k n ZC Yt.out;have a7:wrap64 ((YT ByteArray.size n l k:Int)+(s.size:Int))=(YT ByteArray.size n l (k+1):Int):=by
    exact YH
   exact Xt
  ·obtain rfl:k=n:=by omega
   have hR:(YT ByteArray.size k l k:Int)=(R:Int):=by
    have:=M7.out;rw[RY ByteArray.size _ l k ZO.out];omega
   exact T0):P:=h
def aiO(h:P:=by
 go_enter func11,ntmps11;go_wp2;have h0:(n:Int)=(YT (fun x:Fd=>x.name.size) n l 0:Int):=as0;rw[show Zz .i64 (n:Int)=Zz .i64 (YT (fun x:Fd=>x.name.size) n l 0:Int) from congrArg _ h0];go_loopw [3,4] (fun nv iv wr=>∃k:Nat,k≤n∧iv=.int .i64 (k:Int)∧nv=.int .i64 (YT (fun x:Fd=>x.name.size) n l k:Int)∧wr=W) (fun _ iv _=>n-(intOf iv).toNat)
 case atStart=>exact⟨0,Zw _,rfl,rfl,rfl⟩
 case round =>
  obtain⟨k,hk,rfl,rfl,rfl⟩:=hrel;by_cases ZC:k<n
  ·obtain⟨s,hs⟩:=Yq l k asG
   obtain⟨a,rfl,hc⟩:=Wf.out k s hs;have d0:=hc.c0 _ rfl;have a3:=R4 (fun x:Fd=>x.name.size) n l k s hs;have a4:=RZ (fun x:Fd=>x.name.size) n l (k+1);have a6:=Y7 k n ZC Yt.out;have a7:wrap64 ((YT (fun x:Fd=>x.name.size) n l k:Int)+(s.name.size:Int))=(YT (fun x:Fd=>x.name.size) n l (k+1):Int):=by
    exact YH
   exact Xt
  ·obtain rfl:k=n:=by omega
   have hR:(YT (fun x:Fd=>x.name.size) k l k:Int)=(R:Int):=by
    have:=M7.out;rw[RY (fun x:Fd=>x.name.size) _ l k ZO.out];omega
   exact T0):P:=h
def uA(h:P:=by
 intro y0;have hr:=hA.row.plus y0;obtain⟨V,hV⟩:=ZB (plus w y0);rw[hV]at hr ⊢;clear hV hA;obtain⟨ap,ac,al⟩:=A;simp only[Sl.v]at hr hl ⊢;obtain⟨n,hn⟩:=ZB al.length;rw[hn]at hl ⊢;have ZO:=Zf hn;have Yt:=Zf hl;have XV:=Zf hr;clear hn hl hr;exact Az):P:=h
def aiP(h:P:=by
 go_enter func147,ntmps147;go_upto_region 1 with (fail)
 obtain⟨W,yy,hW,⟨z,hz⟩,ca⟩:=YO V _ 66;rw[hW];have c1:=ca 1 _ rfl;have TB:=Zf (fun k x (hx:al[k]?=some x)=>(show ∃pa,ap=some pa∧Yg W (pa.add (k*2)) x.cells by
  obtain⟨pa,e,hc⟩:=XV.out k x hx;exact⟨pa,e,YR hz hc⟩))
 have ZG:=Zf hz;clear hW hz ca XV;go_upto_region 3 with (fail)
 go_loopw [3,5,9] (fun sv _ iv wr=>∃k:Nat,k≤n∧iv=.int .i64 (k:Int)∧sv=.int .i64 (V5 (al.take k))∧∃y,wr=plus W y) (fun _ _ iv _=>n-(intOf iv).toNat)
 case atStart=>exact⟨0,Zw _,rfl,rfl,_,rfl⟩
 case round =>
  obtain⟨k,hk,rfl,rfl,y,rfl⟩:=hrel;by_cases ZC:k<n
  ·obtain⟨a,ha⟩:=Yq al k asG
   obtain⟨pa,rfl,hc⟩:=TB.out k a ha;have hs:=Zf (Cs al k a ha);obtain⟨an,aw⟩:=a;have d0:=fun y=>(hc.plus y).c0 _ rfl;have d1:=fun y=>(hc.plus y).cs 0 _ rfl;simp only at d0 d1;have a6:=Zf (Y7 k n ZC Yt.out);obtain⟨T,hT⟩:=ZB (V5 (al.take k));rw[hT];have WB:=Zf hT;clear hc ha hT;go_wp2;go_roundw
   case rel=>exact⟨k+1,ZC,congrArg (Zz .i64) a6.out,congrArg (Zz .i64) (by rw[hs.out,WB.out]),MS _⟩
   case measure=>exact Y9 k n ZC a6.out
  ·obtain rfl:k=n:=by omega
   have e:=Zf (show V5 (al.take k)=V5 al by rw[List.take_of_length_le asV]);clear ZC hk;exact qe):P:=h
def aiQ(h:P:=by
 go_enter func180,ntmps180;go_upto_region 1 with (fail)
 generalize hU:V.alloc _=U;have hx:Hid (∃z,U=plus V z):=Zf (hU▸LD V _);have TB:=Zf (show Xa U 2 _ _ _ from by obtain⟨z,h⟩:=hx.out;rw[h];exact XV.out.plus z);have u0:=(congrArg (fun X:World=>X.cell? ⟨V.heap.size,1,none⟩) hU).symm.trans ((YI V _ _ _ 1 rfl).trans rfl);clear hU XV;go_wp2;go_loopw [3,4] (fun sv iv wr=>∃k:Nat,k≤n∧iv=.int .i64 (k:Int)∧sv=.int .i64 (V5 (al.take k))∧wr=U) (fun _ iv _=>n-(intOf iv).toNat)
 case atStart=>exact⟨0,Zw _,rfl,rfl,rfl⟩
 case round =>
  obtain⟨k,hk,rfl,rfl,rfl⟩:=hrel;by_cases ZC:k<n
  ·obtain⟨a,ha⟩:=Yq al k asG
   obtain⟨pa,Yw,hc⟩:=TB.out k a ha;have hs:=Zf (Cs al k a ha);have d1:=hc.cs 0 _ rfl;have a6:=Zf (Y7 k n ZC Yt.out);obtain⟨T,hT⟩:=ZB (V5 (al.take k));rw[hT,Yw];have WB:=Zf hT;clear hc ha hT;go_wp2;go_roundw
   case rel=>exact⟨k+1,ZC,congrArg (Zz .i64) a6.out,congrArg (Zz .i64) (by rw[hs.out,WB.out]),(by first|rfl|trivial)⟩
   case measure=>exact Y9 k n ZC a6.out
  ·obtain rfl:k=n:=by omega
   have e:=Zf (show V5 (al.take k)=V5 al by rw[List.take_of_length_le asV]);clear ZC hk;go_wp2;go_ret;exact⟨congrArg (fun z=>Zd (Zz .i64 z)) e.out,hx.out⟩):P:=h
def uB(h:P:=by
 rw[hW];have e0_0:=cb0 0 _ rfl;have e0_1:=cb0 1 _ rfl;have e0_2:=cb0 2 _ rfl;have e0_3:=cb0 3 _ rfl;have e0_4:=cb0 4 _ rfl;have q0c:=Zf (ZK hz c0'.out);have q1c:=Zf (ZK hz c1'.out);have q2c:=Zf (ZK hz c2'.out);have ZN:=Zf hz;clear hW hz cb0 c0' c1' c2';exact AA):P:=h
def aiR(h:P:=by
 go_cut [52] from 5 to 52 (fun v wx=>v=.bool C∧∃y,wx=plus W y)
 case first =>
  cases s0
  case false =>
   exact qU
  case true =>
   by_cases q1:(kn:Int)<1
   case pos =>
    exact qW
   case neg =>
    by_cases q2:(4:Int)<(kn:Int)
    case pos =>
     have hF:=Zf (show (true)=C by rw[←YY.out,←WJ.out];simp[q1,q2]);open Z renaming aj4→Lp in exact Ka
    case neg =>
     by_cases q3:(an:Int)<1
     case pos =>
      have hF:=Zf (show (true)=C by rw[←YY.out,←WJ.out];simp[q1,q2,q3]);open Z renaming aj5→Lp in exact Ka
     case neg =>
      by_cases q4:(16:Int)<(an:Int)
      case pos =>
       have hF:=Zf (show (true)=C by rw[←YY.out,←WJ.out];simp[q1,q2,q3,q4]);open Z renaming DW→Lp in exact Ka
      case neg =>
       cases s1
       case false =>
        have hF:=Zf (show (true)=C by rw[←YY.out,←WJ.out];simp[q1,q2,q3,q4]);open Z renaming DW→AR in exact uX
       case true =>
        cases s2
        case false =>
         have hF:=Zf (show (true)=C by rw[←YY.out,←WJ.out];simp[q1,q2,q3,q4]);open Z renaming DW→Au in exact uk
        case true =>
         by_cases q7:(8:Int)<(gn:Int)
         case pos =>
          have hF:=Zf (show (true)=C by rw[←YY.out,←WJ.out];simp[q1,q2,q3,q4,q7]);exact qX
         case neg =>
          have hF:=Zf (show (false)=C by rw[←YY.out,←WJ.out];simp[q1,q2,q3,q4,q7]);exact qX
 case rest =>
  obtain⟨rfl,y1,rfl⟩:=hcut;clear WJ q0c q1c q2c;cases G with
  | false =>
   have e:true=C:=YY.out;subst e;have ZP:=Zf (show false=R from ZR.out);clear YY;go_wp2_with fail;go_ret;exact⟨congrArg (fun z=>Zd (Zy z)) ZP.out,asO⟩
  | true =>
   have e:false=C:=YY.out;subst e;have h0:=Zf (show ((kl.drop 0).all SL&&T)=R by rw[Zh,YV.out,←ZR.out];rfl);clear YY YV ZR;go_wp2_with fail;go_loopw [3] (fun iv wr=>∃k:Nat,k≤kn∧iv=.int .i64 (k:Int)∧Hid (((kl.drop k).all SL&&T)=R)∧∃y,wr=plus W y) (fun iv _=>kn-(intOf iv).toNat)
   case atStart=>exact⟨0,Zw _,rfl,h0,_,rfl⟩
   case round =>
    obtain⟨k,hk,rfl,hs,y,rfl⟩:=hrel;by_cases ZC:k<kn
    ·obtain⟨a,ha⟩:=Yq kl k (by rw[NC.out];exact ZC)
     obtain⟨pa,rfl,hc⟩:=rk'.out k a ha;have ZV:=Zo ha;have ZQ:((SL a&&(kl.drop (k+1)).all SL)&&T)=R:=by rw[←U9 SL kl k a ha];exact hs.out
     have a6:=Zf (Y7 k kn ZC bkn'.out);have hc:=ZN.out▸hc.plus z;have q1:=ZK ZN.out (ck'.out a ZV);obtain⟨⟨eop,⟨elw,elh,ell⟩,ehd,enm,eeh,eel,ep,ecap,eargs⟩,ekd⟩:=a;simp only[SL]at q1 ZQ;obtain⟨Z,hZ⟩:=ZB (Ex.may 16 (.mk eop ⟨elw,elh,ell⟩ ehd enm eeh eel ep ecap eargs));rw[hZ]at q1 ZQ;have q1:Wo Zx W 174 #[.agg #[.int .u8 eop,.int .i64 elw,.int .u64 elh,.int .u64 ell,.string ehd,.string enm,.int .i64 eeh,.int .i64 eel,.slice ep eargs.length ecap]] (.bool Z):=q1;have d0:=fun y=>(hc.plus y).c0 _ rfl;have d1:=fun y=>(hc.plus y).cs 0 _ rfl;have d2:=fun y=>(hc.plus y).cs 1 _ rfl;have d3:=fun y=>(hc.plus y).cs 2 _ rfl;have d4:=fun y=>(hc.plus y).cs 3 _ rfl;have d5:=fun y=>(hc.plus y).cs 4 _ rfl;have d6:=fun y=>(hc.plus y).cs 5 _ rfl;have d7:=fun y=>(hc.plus y).cs 6 _ rfl;have d8:=fun y=>(hc.plus y).cs 7 _ rfl;have d9:=fun y=>(hc.plus y).cs 8 _ rfl;simp only[Ex.op,Ex.lit,Ex.head,Ex.name,Ex.hi,Ex.lo,Ex.p,Ex.cap,Ex.args]at d0 d1 d2 d3 d4 d5 d6 d7 d8 d9;have q1':=Zf q1;clear q1 hZ hc ha hs ZV;cases Z with
     | false =>
      have ZP:=Zf (show false=R by rw[←ZQ];simp);clear ZQ;go_wp2_with (go_at_call 174;refine (q1'.out _).mono ?_;rintro e w' ⟨rfl,x,rfl⟩);go_ret;exact⟨congrArg (fun z=>Zd (Zy z)) ZP.out,asO⟩
     | true =>
      by_cases u1:ekd<1
      case pos =>
       have u3:decide (1≤ekd)=false:=decide_eq_false asB;have ZP:=Zf (show false=R by rw[←ZQ];simp[u3]);clear ZQ u3;go_wp2_with (go_at_call 174;refine (q1'.out _).mono ?_;rintro e w' ⟨rfl,x,rfl⟩);go_ret;exact⟨congrArg (fun z=>Zd (Zy z)) ZP.out,asO⟩
      case neg =>
       by_cases u2:(3:Int)<ekd
       case pos =>
        have u3:decide (ekd≤3)=false:=decide_eq_false asB;have ZP:=Zf (show false=R by rw[←ZQ];simp[u3]);clear ZQ u3;go_wp2_with (go_at_call 174;refine (q1'.out _).mono ?_;rintro e w' ⟨rfl,x,rfl⟩);go_ret;exact⟨congrArg (fun z=>Zd (Zy z)) ZP.out,asO⟩
       case neg =>
        have u3:decide (1≤ekd)=true:=decide_eq_true asB;have u4:decide (ekd≤3)=true:=decide_eq_true asB;have ZP:=Zf (show ((kl.drop (k+1)).all SL&&T)=R by rw[←ZQ];simp[u3,u4]);clear ZQ u3 u4;go_wp2_with (go_at_call 174;refine (q1'.out _).mono ?_;rintro e w' ⟨rfl,x,rfl⟩);go_roundw
        case rel=>exact⟨k+1,ZC,congrArg (Zz .i64) a6.out,ZP,_,rfl⟩
        case measure=>exact Y9 k kn ZC a6.out
    ·obtain rfl:k=kn:=by omega
     have h0:=Zf (show (gl.drop 0).all UX=R by rw[Zh,WB.out,←hs.out,List.drop_of_length_le (by rw[NC.out];exact Zt _)];rfl);clear hs ZC hk;go_wp2_with fail;go_loopw [4] (fun iv wr=>∃k:Nat,k≤gn∧iv=.int .i64 (k:Int)∧Hid ((gl.drop k).all UX=R)∧∃y,wr=plus W y) (fun iv _=>gn-(intOf iv).toNat)
     case atStart=>exact⟨0,Zw _,rfl,h0,_,rfl⟩
     case round =>
      obtain⟨k,hk,rfl,hs,y,rfl⟩:=hrel;by_cases ZC:k<gn
      ·obtain⟨a,ha⟩:=Yq gl k (by rw[hgn'.out];exact ZC)
       obtain⟨pa,rfl,hc⟩:=rg'.out k a ha;have ZV:=Zo ha;have ZQ:(UX a&&(gl.drop (k+1)).all UX)=R:=by rw[←U9 UX gl k a ha];exact hs.out
       have a6:=Zf (Y7 k gn ZC bgn'.out);have hc:=ZN.out▸hc.plus z;have q1:=ZK ZN.out (cg'.out a ZV);obtain⟨Z,hZ⟩:=ZB (UX a);rw[hZ]at q1 ZQ;obtain⟨lw,lh,ll⟩:=a;have q1:Wo Zx W 175 #[.agg #[.int .i64 lw,.int .u64 lh,.int .u64 ll]] (.bool Z):=q1;have d0:=fun y=>(hc.plus y).c0 _ rfl;have d1:=fun y=>(hc.plus y).cs 0 _ rfl;have d2:=fun y=>(hc.plus y).cs 1 _ rfl;simp only at d0 d1 d2;have q1':=Zf q1;clear q1 hZ hc ha hs ZV;cases Z with
       | false =>
        have ZP:=Zf (show false=R by rw[←ZQ];simp);clear ZQ;go_wp2_with (go_at_call 175;refine (q1'.out _).mono ?_;rintro e w' ⟨rfl,x,rfl⟩);go_ret;exact⟨congrArg (fun z=>Zd (Zy z)) ZP.out,asO⟩
       | true =>
        have ZP:=Zf (show (gl.drop (k+1)).all UX=R by rw[←ZQ];simp);clear ZQ;go_wp2_with (go_at_call 175;refine (q1'.out _).mono ?_;rintro e w' ⟨rfl,x,rfl⟩);go_roundw
        case rel=>exact⟨k+1,ZC,congrArg (Zz .i64) a6.out,ZP,_,rfl⟩
        case measure=>exact Y9 k gn ZC a6.out
      ·obtain rfl:k=gn:=by omega
       have ZP:=Zf (show true=R by rw[←hs.out,List.drop_of_length_le (by rw[hgn'.out];exact Zt _)];rfl);clear hs ZC hk;go_wp2_with fail;go_ret;exact⟨congrArg (fun z=>Zd (Zy z)) ZP.out,asO⟩):P:=h
def aiS(h:P:=by
 go_cut [21] from 6 to 21 (fun v wx=>v=.bool C∧∃y,wx=plus W y)
 case first =>
  cases s0
  case false =>
   exact qU
  case true =>
   by_cases q1:(8:Int)<(tn:Int)
   case pos =>
    exact qW
   case neg =>
    cases s1
    case false =>
     have hF:=Zf (show (true)=C by rw[←YY.out,←WJ.out];simp[q1]);exact qZ
    case true =>
     have hF:=Zf (show (false)=C by rw[←YY.out,←WJ.out];simp[q1]);exact qZ
 case rest =>
  obtain⟨rfl,y1,rfl⟩:=hcut;clear WJ q0c q1c;cases G with
  | false =>
   have e:true=C:=YY.out;subst e;have ZP:=Zf (show false=R from ZR.out);clear YY;go_wp2_with fail;go_ret;exact⟨congrArg (fun z=>Zd (Zy z)) ZP.out,asO⟩
  | true =>
   have e:false=C:=YY.out;subst e;have Wd:=Zf (show (H&&A)=R from ZR.out);clear YY ZR;go_upto_region 5 with (fail)
   go_cut [67] from 40 to 67 (fun v wx=>v=.bool D∧∃y,wx=plus W y)
   case first =>
    by_cases q0:(kn:Int)<1
    case pos =>
     have hF:=Zf (show (true)=D by rw[←hD'.out,←hH'.out];simp[q0]);go_wp2_with (fail);go_meet;first|exact⟨congrArg Zy hF.out,_,rfl⟩|exact⟨congrArg Zy (Eq.trans (by simp[q0]) hF.out),_,rfl⟩
    case neg =>
     by_cases q1:(4:Int)<(kn:Int)
     case pos =>
      have hF:=Zf (show (true)=D by rw[←hD'.out,←hH'.out];simp[q0,q1]);go_wp2_with (fail);go_meet;first|exact⟨congrArg Zy hF.out,_,rfl⟩|exact⟨congrArg Zy (Eq.trans (by simp[q0,q1]) hF.out),_,rfl⟩
     case neg =>
      by_cases q2:(cn:Int)<1
      case pos =>
       have hF:=Zf (show (true)=D by rw[←hD'.out,←hH'.out];simp[q0,q1,q2]);go_wp2_with (fail);go_meet;first|exact⟨congrArg Zy hF.out,_,rfl⟩|exact⟨congrArg Zy (Eq.trans (by simp[q0,q1,q2]) hF.out),_,rfl⟩
      case neg =>
       by_cases q3:(16:Int)<(cn:Int)
       case pos =>
        have hF:=Zf (show (true)=D by rw[←hD'.out,←hH'.out];simp[q0,q1,q2,q3]);go_wp2_with (fail);go_meet;first|exact⟨congrArg Zy hF.out,_,rfl⟩|exact⟨congrArg Zy (Eq.trans atW hF.out),_,rfl⟩
       case neg =>
        cases s2
        case false =>
         have hF:=Zf (show (true)=D by rw[←hD'.out,←hH'.out];simp[q0,q1,q2,q3]);go_wp2_with (first|(go_at_call 171;with_reducible refine (q2c.out _).mono ?_;rintro r w' ⟨rfl,x,rfl⟩));go_meet;first|exact⟨congrArg Zy hF.out,_,rfl⟩|exact⟨congrArg Zy (Eq.trans atW hF.out),_,rfl⟩
        case true =>
         have hF:=Zf (show (false)=D by rw[←hD'.out,←hH'.out];simp[q0,q1,q2,q3]);go_wp2_with (first|(go_at_call 171;with_reducible refine (q2c.out _).mono ?_;rintro r w' ⟨rfl,x,rfl⟩));go_meet;first|exact⟨congrArg Zy hF.out,_,rfl⟩|exact⟨congrArg Zy (Eq.trans atW hF.out),_,rfl⟩
   case rest =>
    obtain⟨rfl,y2,rfl⟩:=hcut;clear hH' q2c;cases H with
    | false =>
     have e:true=D:=hD'.out;subst e;have ZP:=Zf (show false=R from Wd.out);clear hD';go_wp2_with fail;go_ret;exact⟨congrArg (fun z=>Zd (Zy z)) ZP.out,asO⟩
    | true =>
     have e:false=D:=hD'.out;subst e;have h0:=Zf (show (cl.drop 0).all (Vm (kn:Int))=R by rw[Zh,YV.out];exact Wd.out);clear hD' YV Wd;go_wp2_with fail;go_loopw [3] (fun iv wr=>∃k:Nat,k≤cn∧iv=.int .i64 (k:Int)∧Hid ((cl.drop k).all (Vm (kn:Int))=R)∧∃y,wr=plus W y) (fun iv _=>cn-(intOf iv).toNat)
     case atStart=>exact⟨0,Zw _,rfl,h0,_,rfl⟩
     case round =>
      obtain⟨k,hk,rfl,hs,y,rfl⟩:=hrel;by_cases ZC:k<cn
      ·obtain⟨a,ha⟩:=Yq cl k (by rw[hcn'.out];exact ZC)
       obtain⟨pa,rfl,We⟩:=rc'.out k a ha;have ZV:=Zo ha;have ZQ:((Vm (kn:Int)) a&&(cl.drop (k+1)).all (Vm (kn:Int)))=R:=by rw[←U9 (Vm (kn:Int)) cl k a ha];exact hs.out
       have a6:=Zf (Y7 k cn ZC bcn'.out);have hc:=ZN.out▸We.plus z;clear We;obtain⟨df,⟨xp,xc,xl⟩,xt⟩:=a;obtain⟨bx,rx,sx⟩:=cs'.out _ ZV;simp only at bx rx sx;have d0:=fun y=>(hc.plus y).c0 _ rfl;have d1:=fun y=>(hc.plus y).cs 0 _ rfl;have d2:=fun y=>(hc.plus y).cs 1 _ rfl;simp only[Sl.v]at d0 d1 d2;obtain⟨xn,hxn⟩:=ZB xl.length;rw[hxn]at bx d1;simp only[Vm,Xe]at ZQ;rw[hxn]at ZQ;have bx':=Zf bx;have rx':=Zf rx;have sx':=Zf sx;have hxn':=Zf hxn;have Oq:=Zf ZQ;clear hc ha hs ZV bx rx sx hxn ZQ;go_upto_region 11 with (fail)
       obtain⟨W2,y3,XJ,⟨Xt,ZG⟩,cx⟩:=YO (plus W y) _ 70;rw[XJ];have x0:=cx 0 _ rfl;have x1:=cx 1 _ rfl;have x2:=cx 2 _ rfl;have f0_3:=fun y=>ZS (Tu ZG (e0_3 _)) y;have f0_4:=fun y=>ZS (Tu ZG (e0_4 _)) y;obtain⟨T0,ZY⟩:∃z,W2=plus W z:=⟨_,ZG.trans (ZD _ _ _)⟩;obtain⟨Ul,Uf⟩:∃z,W2=plus V z:=⟨_,by rw[ZY,ZN.out,ZD]⟩;have q0:=Zf (yU xt W2).pure;have Qs:=Zf ZY;have Sj:=Zf Uf;clear XJ cx ZG ZY Uf;generalize hvt:Mn xt=vt at q0 Oq;clear hvt;cases df with
       | true =>
        obtain⟨P,hP⟩:=ZB (vt&&(!decide ((0:Int)<(xn:Int))));obtain⟨Q,hQ⟩:=ZB (!P);have ZQ:((P&&xl.all Vi)&&(cl.drop (k+1)).all (Vm (kn:Int)))=R:=by rw[←Oq.out,←hP];simp only[Nr,if_true,OJ];rw[show decide ((0:Int)≤(xn:Int))=true from decide_eq_true (by omega),Bool.true_and];ac_rfl
        have Xh:=Zf hP;have X6:=Zf hQ;have TR:=Zf ZQ;clear hP hQ ZQ Oq;go_cut [107] from 68 to 121 (fun v wx=>v=.bool Q∧∃y,wx=plus W2 y)
        case first =>
         cases vt
         case false =>
          have hF:=Zf (show (true)=Q by rw[←X6.out,←Xh.out];simp);go_wp2_with (first|(go_at_call 170;with_reducible refine (q0.out _).mono ?_;rintro r w' ⟨rfl,x,rfl⟩));go_meet;first|exact⟨congrArg Zy hF.out,_,rfl⟩|exact⟨congrArg Zy (Eq.trans asD hF.out),_,rfl⟩
         case true =>
          by_cases u1:(0:Int)<(xn:Int)
          case pos =>
           have u1z:0<xn:=asB;have hF:=Zf (show (true)=Q by rw[←X6.out,←Xh.out];simp[u1z]);go_wp2_with (first|(go_at_call 170;with_reducible refine (q0.out _).mono ?_;rintro r w' ⟨rfl,x,rfl⟩));go_meet;first|exact⟨congrArg Zy hF.out,_,rfl⟩|exact⟨congrArg Zy (Eq.trans (by simp[u1z]) hF.out),_,rfl⟩
          case neg =>
           have u1z:¬0<xn:=asB;have hF:=Zf (show (false)=Q by rw[←X6.out,←Xh.out];simp[u1z]);go_wp2_with (first|(go_at_call 170;with_reducible refine (q0.out _).mono ?_;rintro r w' ⟨rfl,x,rfl⟩));go_meet;first|exact⟨congrArg Zy hF.out,_,rfl⟩|exact⟨congrArg Zy (Eq.trans (by simp[u1z]) hF.out),_,rfl⟩
        case rest =>
         obtain⟨rfl,y4,rfl⟩:=hcut;clear Xh q0;cases P with
         | false =>
          have e:true=Q:=X6.out;subst e;have ZP:=Zf (show false=R from TR.out);clear X6;go_wp2_with fail;go_ret;exact⟨congrArg (fun z=>Zd (Zy z)) ZP.out,atb⟩
         | true =>
          have e:false=Q:=X6.out;subst e;have h0i:=Zf (show ((xl.drop 0).all Vi&&(cl.drop (k+1)).all (Vm (kn:Int)))=R by rw[Zh];exact TR.out);clear X6 TR;go_wp2_with fail;go_loopw [5] (fun iv wr=>∃ki:Nat,ki≤xn∧iv=.int .i64 (ki:Int)∧Hid (((xl.drop ki).all Vi&&(cl.drop (k+1)).all (Vm (kn:Int)))=R)∧∃y,wr=plus W2 y) (fun iv _=>xn-(intOf iv).toNat)
          case atStart=>exact⟨0,Zw _,rfl,h0i,_,rfl⟩
          case round =>
           obtain⟨ki,hki,rfl,hsi,yi,rfl⟩:=hrel;by_cases RD:ki<xn
           ·obtain⟨a,ha⟩:=Yq xl ki (by rw[hxn'.out];exact RD)
            obtain⟨pai,rfl,We⟩:=rx'.out ki a ha;have ZV:=Zo ha;have RF:((Vi a&&(xl.drop (ki+1)).all Vi)&&(cl.drop (k+1)).all (Vm (kn:Int)))=R:=by rw[←U9 Vi xl ki a ha];exact hsi.out
            have a6i:=Zf (Y7 ki xn RD bx'.out);have hc:=Sj.out▸We.plus Ul;clear We;have q1:=(yT a W2 (Sj.out▸(sx'.out a ZV).plus Ul)).pure;obtain⟨Z,hZ⟩:=ZB (Vi a);rw[hZ]at q1 RF;obtain⟨sk,⟨vw,vh,vl⟩,⟨mw,mh,ml⟩⟩:=a;have q1:Wo Zx W2 172 #[.agg #[.int .u8 sk,.int .i64 vw,.int .u64 vh,.int .u64 vl,.int .i64 mw,.int .u64 mh,.int .u64 ml]] (.bool Z):=q1;have d0:=fun y=>(hc.plus y).c0 _ rfl;have d1:=fun y=>(hc.plus y).cs 0 _ rfl;have d2:=fun y=>(hc.plus y).cs 1 _ rfl;have d3:=fun y=>(hc.plus y).cs 2 _ rfl;have d4:=fun y=>(hc.plus y).cs 3 _ rfl;have d5:=fun y=>(hc.plus y).cs 4 _ rfl;have d6:=fun y=>(hc.plus y).cs 5 _ rfl;simp only at d0 d1 d2 d3 d4 d5 d6;have q1':=Zf q1;clear q1 hZ hc ha hsi ZV;cases Z with
            | false =>
             have ZP:=Zf (show false=R by rw[←RF];simp);clear RF;go_wp2_with (go_at_call 172;refine (q1'.out _).mono ?_;rintro e w' ⟨rfl,x,rfl⟩);go_ret;exact⟨congrArg (fun z=>Zd (Zy z)) ZP.out,atb⟩
            | true =>
             have ZP:=Zf (show ((xl.drop (ki+1)).all Vi&&(cl.drop (k+1)).all (Vm (kn:Int)))=R by rw[←RF];simp);clear RF;go_wp2_with (go_at_call 172;refine (q1'.out _).mono ?_;rintro e w' ⟨rfl,x,rfl⟩);go_roundw
             case rel=>exact⟨ki+1,RD,congrArg (Zz .i64) a6i.out,ZP,_,rfl⟩
             case measure=>exact Y9 ki xn RD a6i.out
           ·obtain rfl:xn=ki:=by omega
            have ZP:=Zf (show (cl.drop (k+1)).all (Vm (kn:Int))=R by rw[←hsi.out,List.drop_of_length_le (show xl.length≤xn by rw[hxn'.out];exact Zt _)];rfl);clear hsi RD hki;go_wp2_with fail;go_roundw
            case rel=>exact⟨k+1,ZC,congrArg (Zz .i64) a6.out,ZP,atX⟩
            case measure=>exact Y9 k cn ZC a6.out
       | false =>
        by_cases YN:kn=xn
        case pos =>
         subst YN;obtain⟨P,hP⟩:=ZB vt;obtain⟨Q,hQ⟩:=ZB (!P);have ZQ:((P&&xl.all Vi)&&(cl.drop (k+1)).all (Vm (kn:Int)))=R:=by rw[←Oq.out,←hP];simp only[Nr,if_false,Bool.false_eq_true];rw[show decide ((kn:Int)≤(kn:Int))=true from decide_eq_true (Int.le_refl _),Bool.true_and,Bool.true_and]
         have Xh:=Zf hP;have X6:=Zf hQ;have TR:=Zf ZQ;clear hP hQ ZQ Oq;go_cut [107] from 68 to 121 (fun v wx=>v=.bool Q∧∃y,wx=plus W2 y)
         case first =>
          cases vt
          case false =>
           have hF:=Zf (show (true)=Q by rw[←X6.out,←Xh.out];simp);go_wp2_with (first|(go_at_call 170;with_reducible refine (q0.out _).mono ?_;rintro r w' ⟨rfl,x,rfl⟩));go_meet;first|exact⟨congrArg Zy hF.out,_,rfl⟩|exact⟨congrArg Zy (Eq.trans asD hF.out),_,rfl⟩
          case true =>
           have hF:=Zf (show (false)=Q by rw[←X6.out,←Xh.out];simp);go_wp2_with (first|(go_at_call 170;with_reducible refine (q0.out _).mono ?_;rintro r w' ⟨rfl,x,rfl⟩));go_meet;first|exact⟨congrArg Zy hF.out,_,rfl⟩|exact⟨congrArg Zy (Eq.trans asD hF.out),_,rfl⟩
         case rest =>
          obtain⟨rfl,y4,rfl⟩:=hcut;clear Xh q0;cases P with
          | false =>
           have e:true=Q:=X6.out;subst e;have ZP:=Zf (show false=R from TR.out);clear X6;go_wp2_with fail;go_ret;exact⟨congrArg (fun z=>Zd (Zy z)) ZP.out,atb⟩
          | true =>
           have e:false=Q:=X6.out;subst e;have h0i:=Zf (show ((xl.drop 0).all Vi&&(cl.drop (k+1)).all (Vm (kn:Int)))=R by rw[Zh];exact TR.out);clear X6 TR;go_wp2_with fail;go_loopw [5] (fun iv wr=>∃ki:Nat,ki≤kn∧iv=.int .i64 (ki:Int)∧Hid (((xl.drop ki).all Vi&&(cl.drop (k+1)).all (Vm (kn:Int)))=R)∧∃y,wr=plus W2 y) (fun iv _=>kn-(intOf iv).toNat)
           case atStart=>exact⟨0,Zw _,rfl,h0i,_,rfl⟩
           case round =>
            obtain⟨ki,hki,rfl,hsi,yi,rfl⟩:=hrel;by_cases RD:ki<kn
            ·obtain⟨a,ha⟩:=Yq xl ki (by rw[hxn'.out];exact RD)
             obtain⟨pai,rfl,We⟩:=rx'.out ki a ha;have ZV:=Zo ha;have RF:((Vi a&&(xl.drop (ki+1)).all Vi)&&(cl.drop (k+1)).all (Vm (kn:Int)))=R:=by rw[←U9 Vi xl ki a ha];exact hsi.out
             have a6i:=Zf (Y7 ki kn RD bx'.out);have hc:=Sj.out▸We.plus Ul;clear We;have q1:=(yT a W2 (Sj.out▸(sx'.out a ZV).plus Ul)).pure;obtain⟨Z,hZ⟩:=ZB (Vi a);rw[hZ]at q1 RF;obtain⟨sk,⟨vw,vh,vl⟩,⟨mw,mh,ml⟩⟩:=a;have q1:Wo Zx W2 172 #[.agg #[.int .u8 sk,.int .i64 vw,.int .u64 vh,.int .u64 vl,.int .i64 mw,.int .u64 mh,.int .u64 ml]] (.bool Z):=q1;have d0:=fun y=>(hc.plus y).c0 _ rfl;have d1:=fun y=>(hc.plus y).cs 0 _ rfl;have d2:=fun y=>(hc.plus y).cs 1 _ rfl;have d3:=fun y=>(hc.plus y).cs 2 _ rfl;have d4:=fun y=>(hc.plus y).cs 3 _ rfl;have d5:=fun y=>(hc.plus y).cs 4 _ rfl;have d6:=fun y=>(hc.plus y).cs 5 _ rfl;simp only at d0 d1 d2 d3 d4 d5 d6;have q1':=Zf q1;clear q1 hZ hc ha hsi ZV;cases Z with
             | false =>
              have ZP:=Zf (show false=R by rw[←RF];simp);clear RF;go_wp2_with (go_at_call 172;refine (q1'.out _).mono ?_;rintro e w' ⟨rfl,x,rfl⟩);go_ret;exact⟨congrArg (fun z=>Zd (Zy z)) ZP.out,atb⟩
             | true =>
              have ZP:=Zf (show ((xl.drop (ki+1)).all Vi&&(cl.drop (k+1)).all (Vm (kn:Int)))=R by rw[←RF];simp);clear RF;go_wp2_with (go_at_call 172;refine (q1'.out _).mono ?_;rintro e w' ⟨rfl,x,rfl⟩);go_roundw
              case rel=>exact⟨ki+1,RD,congrArg (Zz .i64) a6i.out,ZP,_,rfl⟩
              case measure=>exact Y9 ki kn RD a6i.out
            ·obtain rfl:kn=ki:=by omega
             have ZP:=Zf (show (cl.drop (k+1)).all (Vm (kn:Int))=R by rw[←hsi.out,List.drop_of_length_le (show xl.length≤kn by rw[hxn'.out];exact Zt _)];rfl);clear hsi RD hki;go_wp2_with fail;go_roundw
             case rel=>exact⟨k+1,ZC,congrArg (Zz .i64) a6.out,ZP,atX⟩
             case measure=>exact Y9 k cn ZC a6.out
        case neg =>
         have ZP:=Zf (show false=R by rw[←Oq.out];simp only[Nr,if_false,Bool.false_eq_true];exact jW vt (xl.all Vi) _ YN);clear Oq;cases vt
         case false =>
          go_wp2_with (first|(go_at_call 170;with_reducible refine (q0.out _).mono ?_;rintro r w' ⟨rfl,x,rfl⟩));go_ret;exact⟨congrArg (fun z=>Zd (Zy z)) ZP.out,atb⟩
         case true =>
          go_wp2_with (first|(go_at_call 170;with_reducible refine (q0.out _).mono ?_;rintro r w' ⟨rfl,x,rfl⟩));go_ret;exact⟨congrArg (fun z=>Zd (Zy z)) ZP.out,atb⟩
      ·obtain rfl:cn=k:=by omega
       have ZP:=Zf (show true=R by rw[←hs.out,List.drop_of_length_le (show cl.length≤cn by rw[hcn'.out];exact Zt _)];rfl);clear hs ZC hk;go_wp2_with fail;go_ret;exact⟨congrArg (fun z=>Zd (Zy z)) ZP.out,asO⟩):P:=h
def SX(h:P:=by
 intro y0;have h0:=h0.up y0;obtain⟨V,hV⟩:=ZB (plus w y0);rw[hV]at h0 ⊢;clear hV;exact SK):P:=h
def aiT(h:P:=by
 obtain⟨R,hR⟩:=ZB (if is then s0 else ((a0==0)&&((a1==0)&&(a2==0))));rw[hR];by_cases q1:(is)=true
 case neg =>
  have q1:(is)=false:=asJ;by_cases q2:(a0==0)=true
  case neg =>
   have q2:(a0==0)=false:=asL;open Z renaming Ht→Vg in exact Vk
  case pos =>
   by_cases q3:(a1==0)=true
   case neg =>
    have q3:(a1==0)=false:=asP;open Z renaming Ht→SI in exact SV
   case pos =>
    by_cases q4:(a2==0)=true
    case neg =>
     have q4:(a2==0)=false:=atf;open Z renaming Ht→NQ in exact Mv
    case pos =>
     have hF:=Zf (show (true)=R by first|exact hR|(rw[←hR];simp[q1,q2,q3,q4]));exact Ht
 case pos =>
  cases s0
  case false =>
   open Z renaming pC→WV in exact WX
  case true =>
   open Z renaming pC→SJ in exact SW):P:=h
def aiU(h:P:=by
 obtain⟨R,hR⟩:=ZB (if s.toList==[] then p !=1 else ((p !=0)&&s0));rw[hR];by_cases q1:(s.toList==[])=true
 case neg =>
  have q1:(s.toList==[])=false:=asJ;by_cases q2:(p !=0)=true
  case neg =>
   have q2:(p !=0)=false:=asL;open Z renaming D3→Vg in exact Vk
  case pos =>
   cases s0
   case false =>
    open Z renaming pE→Vg in exact Vk
   case true =>
    open Z renaming pE→RN in exact R8
 case pos =>
  by_cases q3:(p !=1)=true
  case neg =>
   have q3:(p !=1)=false:=asP;have hF:=Zf (show (false)=R by first|exact hR|(rw[←hR];simp[q1,q3]));exact D3
  case pos =>
   have hF:=Zf (show (true)=R by first|exact hR|(rw[←hR];simp[q1,q3]));exact D3):P:=h
def aiV(h:P:=by
 obtain⟨R,hR⟩:=ZB ((s.toList==[97,99,99,101,112,116])||((s.toList==[114,101,106,101,99,116])||s0));rw[hR];by_cases q1:(s.toList==[97,99,99,101,112,116])=true
 case neg =>
  have q1:(s.toList==[97,99,99,101,112,116])=false:=asJ;by_cases q2:(s.toList==[114,101,106,101,99,116])=true
  case neg =>
   have q2:(s.toList==[114,101,106,101,99,116])=false:=asL;cases s0
   case false =>
    open Z renaming pF→Vg in exact Vk
   case true =>
    open Z renaming pF→RN in exact R8
  case pos =>
   open Z renaming pG→RN in exact R8
 case pos =>
  open Z renaming pG→SJ in exact SW):P:=h
def aiW(h:P:=by
 obtain⟨R,hR⟩:=ZB (decide (1≤a9)&&(decide (a9≤3)&&s0));rw[hR];by_cases q1:1≤a9
 case neg =>
  open Z renaming wm→WV in exact WX
 case pos =>
  by_cases q2:a9≤3
  case neg =>
   open Z renaming wm→Vg in exact Vk
  case pos =>
   cases s0
   case false =>
    open Z renaming wo→Vg in exact Vk
   case true =>
    open Z renaming wo→RN in exact R8):P:=h
def aiX(h:P:=by
 have ht2:¬a2.toList=[]:=atd;obtain⟨R,hR⟩:=ZB (s0&&(((a3n:Int)==0)&&((a4n:Int)==0)));rw[hR];cases s0
 case false =>
  open Z renaming Ik→Xy in exact Xz
 case true =>
  by_cases q1:((a3n:Int)==0)=true
  case neg =>
   have q1:((a3n:Int)==0)=false:=asJ;open Z renaming Ik→WV in exact WX
  case pos =>
   by_cases q2:((a4n:Int)==0)=true
   case neg =>
    have q2:((a4n:Int)==0)=false:=asL;open Z renaming Ik→Vg in exact Vk
   case pos =>
    open Z renaming Ik→RN in exact R8):P:=h
def aiY(h:P:=by
 obtain⟨R,hR⟩:=ZB (s0||((s.toList==[97,99,99,101,112,116])||(s.toList==[114,101,106,101,99,116])));rw[hR];cases s0
 case false =>
  by_cases q1:(s.toList==[97,99,99,101,112,116])=true
  case neg =>
   have q1:(s.toList==[97,99,99,101,112,116])=false:=asJ;by_cases q2:(s.toList==[114,101,106,101,99,116])=true
   case neg =>
    have q2:(s.toList==[114,101,106,101,99,116])=false:=asL;open Z renaming Hh→Vg in exact Vk
   case pos =>
    open Z renaming Hh→RN in exact R8
  case pos =>
   open Z renaming Hh→SJ in exact SW
 case true =>
  open Z renaming Hh→RP in exact Qa):P:=h
def aiZ(h:P:=by
 obtain⟨R,hR⟩:=ZB ((!((a8n:Int) !=0))&&((a4.toList==[])&&((a5.toList==[])&&((s0)&&((a6==0)&&(a7==0))))));rw[hR];by_cases q1:((a8n:Int) !=0)=true
 case neg =>
  have q1:((a8n:Int) !=0)=false:=asJ;by_cases q2:(a4.toList==[])=true
  case neg =>
   exact rK
  case pos =>
   open Z renaming ak5→NU in exact Mz
 case pos =>
  exact DK):P:=h
def ai0(h:P:=by
 obtain⟨R,hR⟩:=ZB ((!((a8n:Int) !=0))&&((!(a4.toList==[])&&s0)&&((a5.toList==[])&&(((a1==0)&&((a2==0)&&(a3==0)))&&((a6==0)&&(a7==0))))));rw[hR];by_cases q1:((a8n:Int) !=0)=true
 case neg =>
  have q1:((a8n:Int) !=0)=false:=asJ;by_cases q2:(a4.toList==[])=true
  case neg =>
   open Z renaming ahx→Ja in exact IA
  case pos =>
   open Z renaming rJ→NU in exact Mz
 case pos =>
  exact DK):P:=h
def ai1(h:P:=by
 open Z renaming adp→Oy in exact OW):P:=h
def ai2(h:P:=by
 open Z renaming aj3→AL in exact uO):P:=h
def ai3(h:P:=by
 have h0:=Zf h0;go_enter func205,ntmps205;go_wp2_with fail;obtain⟨W,yy,hW,⟨z,hz⟩,ca⟩:=YO V _ 45;open Z renaming acG→KV in exact Ij):P:=h
def ai4(h:P:=by
 obtain⟨R,hR⟩:=ZB (s0&&((a4==0)&&((a5==0)&&(a6==0))));rw[hR];cases s0
 case false =>
  open Z renaming Ki→Xy in exact Xz
 case true =>
  by_cases q1:(a4==0)=true
  case neg =>
   have q1:(a4==0)=false:=asJ;open Z renaming Ki→WV in exact WX
  case pos =>
   by_cases q2:(a5==0)=true
   case neg =>
    have q2:(a5==0)=false:=asL;open Z renaming Ki→Vg in exact Vk
   case pos =>
    by_cases q3:(a6==0)=true
    case neg =>
     have q3:(a6==0)=false:=asP;open Z renaming Ki→SI in exact SV
    case pos =>
     open Z renaming Ki→Jj in exact IW):P:=h
def ai5(h:P:=by
 obtain⟨R,hR⟩:=ZB ((!((a8n:Int) !=0))&&((a4.toList==[])&&((!(a5.toList==[])&&s0)&&(((a1==0)&&((a2==0)&&(a3==0)))&&((a6==0)&&(a7==0))))));rw[hR];by_cases q1:((a8n:Int) !=0)=true
 case neg =>
  have q1:((a8n:Int) !=0)=false:=asJ;by_cases q2:(a4.toList==[])=true
  case neg =>
   exact rK
  case pos =>
   open Z renaming ak7→NU in exact Mz
 case pos =>
  exact DK):P:=h
def IL(h:P:=by
 obtain⟨op,⟨lw,lh,ll⟩,hd,nm,hi,lo,ep,ec,el⟩:=e;simp only[Ex.op,Ex.lit,Ex.head,Ex.name,Ex.hi,Ex.lo,Ex.p,Ex.cap,Ex.args]at *;exact Jf):P:=h
def ai6(h:P:=by
 go_enter func159,ntmps159;go_upto_region 1 with (fail)
 obtain⟨W,yy,hW,⟨z,hz⟩,ca,cb⟩:=Xu V _ _ 30 45;rw[hW];open Z renaming aha→Ll in exact L6):P:=h
def ai7(h:P:=by
 subst hfv;go_enter func161,ntmps161;go_upto_region 1 with (fail)
 obtain⟨W,yy,hW,⟨z,hz⟩,ca⟩:=YO V _ 45;rw[hW];open Z renaming ahb→Ll in exact L6):P:=h
def ai8(h:P:=by
 go_enter func158,ntmps158;go_upto_region 1 with (fail)
 obtain⟨W,yy,hW,⟨z,ZG⟩,ca⟩:=YO V _ 45;rw[hW];open Z renaming ahc→Ll in exact L6):P:=h
def ai9(h:P:=by
 go_enter func94,ntmps94;go_upto_region 3 with (fail)
 obtain⟨W,yy,hW,⟨z,ZG⟩,ca,cb,cc,cd⟩:=nE V _ _ _ _ 30 3 45 108;rw[hW];have w0:∀{a:Addr} {v:Value},(∀y,(plus W y).cell? a=some v)→W.cell? a=some v:=fun h=>by
  have:=h ⟨#[],W.drawn⟩;rwa [Yk]at this
 have e0:=cc 0 _ rfl;have e1:=cc 1 _ rfl;have e2:=cc 2 _ rfl;have e3:=cc 3 _ rfl;have e4:=cc 4 _ rfl;have e5:=cc 5 _ rfl;have e6:=cc 6 _ rfl;have e7:=cc 7 _ rfl;have e8:=cc 8 _ rfl;have d0:=cd 0 _ rfl;have q1:=Zf (kN.out W z ZG V.heap.size (V.heap.size+1) (V.heap.size+1+1+1) ⟨fun j v hj=>w0 (ca j _ (by simpa using hj)),w0 (cb 0 _ rfl),w0 (cd 0 _ rfl)⟩).pure;have UU:=Zf ZG;clear hW ZG ca cb cc cd kN w0;cases b with
 | true =>
  go_wp2_with (first|(refine (q1.out _).mono ?_;rintro r w' ⟨rfl,x,rfl⟩));go_ret;exact⟨rfl,at1⟩
 | false =>
  go_wp2_with (first|(refine (q1.out _).mono ?_;rintro r w' ⟨rfl,x,rfl⟩));go_ret;exact⟨rfl,at1⟩):P:=h
def uC(h:P:=by
 have q1:=yP ⟨kp,kc,kl⟩ V (by rw[hzv];exact xth.out.plus (fun _ a=>a) _) (by show (kl.map Y1).sum≤_;have h1:=hKh.out;have h2:=a3h.out;have h3:=b0h.out;omega);simp only[Sl.size,Sl.v]at q1;rw[hKh.out]at q1;have q1':=Zf q1;have hzvh:=Zf hzv;exact AB):P:=h
def aja(h:P:=by
 have a7:=Zf (xQ N0 nm.size tX9.size KK (N0+1+nm.size+tX9.size+KK) rfl (by have h2:=a3h.out;have h3:=b0h.out;omega));open Z renaming alu→zf in exact tM):P:=h
def ajb(h:P:=by
 have a7:=Zf (abj N0 nm.size KK dn.size gl.length (N0+1+nm.size+KK+dn.size+gl.length) rfl (by have h2:=a3h.out;have h3:=b0h.out;omega));open Z renaming alv→zf in exact tM):P:=h
def uD(h:P:=by
 go_upto_region 6 with (fail)
 open Z renaming amf→G7 in exact DC):P:=h
def ajc(h:P:=by
 by_cases YH:L1=0
 ·subst YH
  rw[if_pos rfl]at Vf;go_wp2;go_roundw
  case rel=>exact⟨k+1,ZC,congrArg (Zz .i64) a6.out,aup,Zf (fun j y hj hy=>by
    by_cases UQ:j<k
    ·exact hJ.out j y UQ hy
    ·obtain rfl:j=k:=by omega
     rw[Vf.out]at hy;exact (Option.some.inj hy).symm)⟩
  case measure=>exact Y9 k n ZC a6.out
 ·exact sZ):P:=h
def ajd(h:P:=by
 by_cases YH:L1=0
 ·subst YH
  rw[if_pos rfl]at Vf;go_upto_region 10 with (fail)
  open Z renaming ame→G7 in exact DC
 ·exact sZ):P:=h
def uE(h:P:=by
 refine⟨trivial,rfl,CallsIn.mono (callsIn_wide.2 qm) ?_⟩;rintro e U ⟨rfl,x1,hU⟩;have X9:=Zf (show U=plus V _ by rw[hU,Qs.out,ZD]);have c2:Boxed U _ _ _:=(by rw[hU];exact UN c2 x1);have c3:Boxed U _ _ _:=(by rw[hU];exact UN c3 x1);exact AD):P:=h
def aje(h:P:=by
 have cp:=fun j v hj=>show U.cell? _=some v by rw[hU];exact ZS (cp j v hj) x1
 have hsU:V.heap.size+1+1+1≤U.heap.size:=by rw[hU,←hs3];exact XZ W3 x1
 clear hU Qs hs3 qm;obtain⟨b1,hb1⟩:=ZB V.heap.size;rw[hb1]at cp c2 c3 hsU ⊢;have d0:=fun o:Obj=>YG (cp 0 _ rfl) o;have d1:=fun o:Obj=>YG (cp 1 _ rfl) o;have d2:=fun o:Obj=>YG (cp 2 _ rfl) o;have d3:=fun o:Obj=>YG (cp 3 _ rfl) o;have d4:=fun o:Obj=>YG (cp 4 _ rfl) o;have d5:=fun o:Obj=>YG (cp 5 _ rfl) o;have d6:=fun o:Obj=>YG (cp 6 _ rfl) o;have cp':=Zf cp;have c2':=Zf c2;have c3':=Zf c3;clear cp c2 c3;gi_wp2;refine⟨trivial,rfl,CallsIn.mono (BC _ _) ?_⟩;rintro e X ⟨rfl,hX⟩;obtain⟨c,hc⟩:=ZB U.heap.size;have n0:=(Boxed.new U 3 (.int .i64 0)).alloc (.cells #[.slice p.headers.p p.headers.l.length p.headers.cap,.slice p.metas.p p.metas.l.length p.metas.cap,.slice p.states.p p.states.l.length p.states.cap,.slice p.actions.p p.actions.l.length p.actions.cap,.slice p.tables.p p.tables.l.length p.tables.cap,.slice p.control.p p.control.l.length p.control.cap,.slice p.emit.p p.emit.l.length p.emit.cap] 30);have hXU:Kq Fu U X:=by rw[hX];exact (Kq.alloc Fu U _).trans (Kq.alloc Fu _ _)
 have hUV:=X9.out;have hVX:Below V.heap.size V X:=by
  have h1:Below V.heap.size V U:=by rw[hUV];exact Xl V _
  exact h1.trans (hXU.low _ (by rw[hb1];omega) (fun _ h=>h.elim))
 have m2:Boxed X (b1+1) 3 (.int .i64 0):=by rw[hX];exact (c2'.out.alloc _).alloc _
 have m3:Boxed X (b1+1+1) 33 (.int .i64 0):=by rw[hX];exact (c3'.out.alloc _).alloc _
 have m4:Boxed X c 3 (.int .i64 0):=by rw[hX,←hc];exact n0
 have mp:∀j v,p.cells[j]?=some v→X.cell? ⟨b1,j,none⟩=some v:=fun j v hj=>hXU.cell _ _ (fun h=>h) (cp'.out j v (by simpa [Pr.cells,Sl.v]using hj));have mq:∀j v,p.cells[j]?=some v→X.cell? ⟨c+1,j,none⟩=some v:=fun j v hj=>by
  rw[hX,←hc,show U.heap.size+1=(U.alloc (.cells #[.int .i64 0] 3)).heap.size by simp];exact ti
 have hsX:X.heap.size=c+2:=by rw[hX,←hc];simp
 have hbc:b1+3≤c:=asB;rw[hc];simp only[World.size_alloc,hc];obtain⟨zX,ZE⟩:=Yy hVX;have NH:=Zf ZE;have hinX:p.In X:=by rw[ZE];exact VR.out.plus zX
 have Sd:=VR.out;have hqX:∀S,Kq S V X:=fun S=>by rw[ZE];exact Kq.plus S V zX
 have hb1X:b1+3≤c:=hbc;have I2:=Zf m2;have I3:=Zf m3;have I4:=Zf m4;have IP:=Zf mp;have IQ:=Zf mq;have IV:=Zf Sd;have IX:=Zf hqX;have IS:=Zf hsX;have IB:=Zf hbc;have IE:=Zf hb1;clear hX n0 hXU hUV hVX m2 m3 m4 mp mq hsX hbc hb1 cp' c2' c3' X9 d0 d1 d2 d3 d4 d5 d6 VR ND hsU hc ZE hinX Sd hqX hb1X NH;gi_wp2;refine abe (gf:=66) (lb:=#[.pointer (some ⟨c+1,0,none⟩)]) rfl (enters_of func66 asC rfl) (Yh p) It.v (fun b=>b=b1+1∨b=b1+1+1∨b=c) ?seq rfl
  (fun k W=>Kq (fun b=>(b=b1+1∨b=b1+1+1∨b=c)∨c+2≤b) X W∧Boxed W (b1+1) 3 (.int .i64 0)∧Boxed W (b1+1+1) 33 (.int .i64 0)∧Boxed W c 3 (.int .i64 (k:Int))∧∀j y,j<k→(Yh p)[j]?=some y→Yu p y=0)
  (fun W=>Kq (fun b=>(b=b1+1∨b=b1+1+1∨b=c)∨c+2≤b) X W∧∃(k:Nat) (z:It),(Yh p)[k]?=some z∧(∀j y,j<k→(Yh p)[j]?=some y→Yu p y=0)∧Yu p z≠0∧Boxed W (b1+1) 3 (.int .i64 (k:Int))∧Boxed W (b1+1+1) 33 (.int .i64 (Yu p z)))
  ?hI ?hIx ?h0 ?round ?done ?stop
 case seq =>
  intro l J Jx W hl ZC hk hJ hN h0;have hs:=IS.out;have hb:=IB.out;have he:=IE.out;have YB:=hk.size;refine jd l p (fun b=>(b=b1+1∨b=b1+1+1∨b=c)∨b=l) J Jx ⟨hN,hJ⟩ V (fun b h=>?_) IV.out hz (c+1) W ((IX.out _).trans (hk.mono fun _ h=>.inr h)) (fun b h=>?_) (fun h=>?_) (fun j v hj=>?_) h0
  ·omega
  ·omega
  ·omega
  ·rw[Cp];exact hk.cell _ _ (fun h=>asS) (IQ.out j v hj)
 case hI =>
  rintro k l W W' hl ⟨h1,h2,h3,h4,h5⟩ hk;have hs:=IS.out;have hb:=IB.out;exact⟨h1.trans (hk.mono fun _ h=>.inr asB),Boxed.kq1 h2 asB hk,Boxed.kq1 h3 asB hk,Boxed.kq1 h4 asB hk,h5⟩
 case hIx =>
  rintro l W W' hl ⟨h1,k,z,h2,h3,h4,h5,h6⟩ hk;have hs:=IS.out;have hb:=IB.out;exact⟨h1.trans (hk.mono fun _ h=>.inr asB),k,z,h2,h3,h4,Boxed.kq1 h5 asB hk,Boxed.kq1 h6 asB hk⟩
 case h0=>exact⟨Kq.refl _ _,I2.out,I3.out,I4.out,fun j y h=>absurd h (Nat.not_lt_zero j)⟩
 case round =>
  rintro l k z W hl ZC hx ⟨h1,h2,h3,h4,h5⟩;obtain⟨kd,a,b,ZU,ZI,ZJ,Ye,Yd,Z9,Ya,Z5,Z6,Z8,Yb,Z7,Yf,Z4,Z0,ZW,ZZ,Z3,ZX,Z1,hzv⟩:=z.shape;rw[hzv];gi_wp2;refine⟨(KeepsOthers.alloc _ _).from _,Kq.alloc _ _ _,fun W2 Yp ZP=>?_⟩;have hs:=IS.out;have hb:=IB.out;have he:=IE.out;have YN:W.heap.size≠l:=asB;have i0:=Yp.cell ⟨W.heap.size,0,none⟩ _ (fun h=>YN h) ((YI W _ _ _ 0 rfl).trans rfl);have i1:=Yp.cell ⟨W.heap.size,1,none⟩ _ (fun h=>YN h) ((YI W _ _ _ 1 rfl).trans rfl);have i2:=Yp.cell ⟨W.heap.size,2,none⟩ _ (fun h=>YN h) ((YI W _ _ _ 2 rfl).trans rfl);have i3:=Yp.cell ⟨W.heap.size,3,none⟩ _ (fun h=>YN h) ((YI W _ _ _ 3 rfl).trans rfl);have i4:=Yp.cell ⟨W.heap.size,4,none⟩ _ (fun h=>YN h) ((YI W _ _ _ 4 rfl).trans rfl);have i5:=Yp.cell ⟨W.heap.size,5,none⟩ _ (fun h=>YN h) ((YI W _ _ _ 5 rfl).trans rfl);have i6:=Yp.cell ⟨W.heap.size,6,none⟩ _ (fun h=>YN h) ((YI W _ _ _ 6 rfl).trans rfl);have i7:=Yp.cell ⟨W.heap.size,7,none⟩ _ (fun h=>YN h) ((YI W _ _ _ 7 rfl).trans rfl);have i8:=Yp.cell ⟨W.heap.size,8,none⟩ _ (fun h=>YN h) ((YI W _ _ _ 8 rfl).trans rfl);have i9:=Yp.cell ⟨W.heap.size,9,none⟩ _ (fun h=>YN h) ((YI W _ _ _ 9 rfl).trans rfl);have i10:=Yp.cell ⟨W.heap.size,10,none⟩ _ (fun h=>YN h) ((YI W _ _ _ 10 rfl).trans rfl);have i11:=Yp.cell ⟨W.heap.size,11,none⟩ _ (fun h=>YN h) ((YI W _ _ _ 11 rfl).trans rfl);have i12:=Yp.cell ⟨W.heap.size,12,none⟩ _ (fun h=>YN h) ((YI W _ _ _ 12 rfl).trans rfl);have i13:=Yp.cell ⟨W.heap.size,13,none⟩ _ (fun h=>YN h) ((YI W _ _ _ 13 rfl).trans rfl);have i14:=Yp.cell ⟨W.heap.size,14,none⟩ _ (fun h=>YN h) ((YI W _ _ _ 14 rfl).trans rfl);have i15:=Yp.cell ⟨W.heap.size,15,none⟩ _ (fun h=>YN h) ((YI W _ _ _ 15 rfl).trans rfl);have i16:=Yp.cell ⟨W.heap.size,16,none⟩ _ (fun h=>YN h) ((YI W _ _ _ 16 rfl).trans rfl);have d0:=Yp.cell ⟨b1,0,none⟩ _ (fun h=>asS) (YG (h1.cell ⟨b1,0,none⟩ _ (fun h=>asS) (IP.out 0 _ rfl)) _);have d1:=Yp.cell ⟨b1,1,none⟩ _ (fun h=>asS) (YG (h1.cell ⟨b1,1,none⟩ _ (fun h=>asS) (IP.out 1 _ rfl)) _);have d2:=Yp.cell ⟨b1,2,none⟩ _ (fun h=>asS) (YG (h1.cell ⟨b1,2,none⟩ _ (fun h=>asS) (IP.out 2 _ rfl)) _);have d3:=Yp.cell ⟨b1,3,none⟩ _ (fun h=>asS) (YG (h1.cell ⟨b1,3,none⟩ _ (fun h=>asS) (IP.out 3 _ rfl)) _);have d4:=Yp.cell ⟨b1,4,none⟩ _ (fun h=>asS) (YG (h1.cell ⟨b1,4,none⟩ _ (fun h=>asS) (IP.out 4 _ rfl)) _);have d5:=Yp.cell ⟨b1,5,none⟩ _ (fun h=>asS) (YG (h1.cell ⟨b1,5,none⟩ _ (fun h=>asS) (IP.out 5 _ rfl)) _);have d6:=Yp.cell ⟨b1,6,none⟩ _ (fun h=>asS) (YG (h1.cell ⟨b1,6,none⟩ _ (fun h=>asS) (IP.out 6 _ rfl)) _);have hVW:Kq (fun b=>(b=b1+1∨b=b1+1+1∨b=c)∨c+2≤b) V W2:=(((IX.out _).trans h1).trans (Kq.alloc _ _ _)).trans (Yp.mono fun _ h=>.inr asB);have Qo:p.In W2:=zK hVW (fun b h=>asB) IV.out;have ZV:=Zo hx;have hw:=abp p W2 Qo hz z (PZ p W2 Qo hz z ZV) (yZ p k z hx h5) ⟨#[],W2.drawn⟩;rw[Yk,hzv]at hw;have m2:=Boxed.kq1 (Boxed.alloc h2 _) asB Yp;have m3:=Boxed.kq1 (Boxed.alloc h3 _) asB Yp;have m4:=Boxed.kq1 (Boxed.alloc h4 _) asB Yp;have YA:=Zf (((h1.trans (Kq.alloc _ _ _)).trans (Yp.mono fun _ h=>.inr asB)))
  have Xr:=Zf hw;have h5':=Zf h5;have VY:=Zf hx;clear hw hVW Qo ZV h1 h2 h3 h4 h5 hx Yp ZP hzv YN;have hkl:=(Zi.1 VY.out).1;have hkb:=S9 p hz;obtain⟨e,hev⟩:=ZB (Yu p z);rw[hev]at Xr;have hev':=Zf hev;clear hev;gi_wp2;refine⟨trivial,rfl,CallsIn.mono (CallsIn.inRound l (callsIn_wide.2 Xr.out)) ?_⟩;rintro e' W3 ⟨rfl,x3,WZ⟩;have n2:Boxed W3 _ _ _:=(by rw[WZ];exact Boxed.plus m2 x3);have n3:Boxed W3 _ _ _:=(by rw[WZ];exact Boxed.plus m3 x3);have n4:Boxed W3 _ _ _:=(by rw[WZ];exact Boxed.plus m4 x3);have ZL:∀T,Kq T W2 W3:=fun T=>by rw[WZ];exact Kq.plus T W2 x3
  have ZT:KeepsFrom X.heap.size W2 W3:=by rw[WZ];exact⟨XZ W2 x3,fun i o _ h _=>UN h x3⟩
  have Ys:=Zf (YA.out.trans (ZL _));have ZL':=Zf ZL;have ZT':=Zf ZT;have c4:=n4.cell;have f4:=n4.frozen;have c2:=n2.cell;have f2:=n2.frozen;have c3:=n3.cell;have f3:=n3.frozen;have N2:=Zf n2;have N3:=Zf n3;have N4:=Zf n4;clear n2 n3 n4 ZL ZT WZ m2 m3 m4 i0 i1 i2 i3 i4 i5 i6 i7 i8 i9 i10 i11 i12 i13 i14 i15 i16 d0 d1 d2 d3 d4 d5 d6;by_cases hz0:e=0
  ·subst hz0
   gi_wp2;refine⟨ZT'.out.trans ((KeepsOthers.setCell _ _ _).from _),(ZL'.out _).trans (Kq.setCell _ _ _ (.inr (.inr rfl))),Ys.out.trans (Kq.setCell _ _ _ (.inl (.inr (.inr rfl)))),Boxed.other N2.out asB _,Boxed.other N3.out asB _,?_,fun j y hj hy=>?_⟩
   ·have:=Boxed.set (.int .i64 ((k+1:Nat):Int)) N4.out
    rw[show ((k:Int)+1)=((k+1:Nat):Int) by omega];exact this
   ·by_cases UQ:j<k
    ·exact h5'.out j y UQ hy
    ·obtain rfl:j=k:=by omega
     rw[VY.out]at hy;obtain rfl:=Option.some.inj hy;exact hev'.out
  ·have g0:(e==0)=false:=by simpa using hz0
   gi_wp2;refine⟨ZT'.out.trans (((KeepsOthers.setCell _ _ _).from _).trans ((KeepsOthers.setCell _ _ _).from _)),(Ys.out.trans (Kq.setCell _ _ _ (.inl (.inl rfl)))).trans (Kq.setCell _ _ _ (.inl (.inr (.inl rfl)))),k,z,VY.out,h5'.out,by rw[hev'.out];exact hz0,Boxed.other (Boxed.set _ N2.out) asB _,?_⟩;rw[hev'.out];exact Boxed.set _ (Boxed.other N3.out asB _)
 case done =>
  rintro D W hD ⟨h1,h2,h3,h4,h5⟩ hK;have c4:=h4.cell;have c2:=h2.cell;have f2:=h2.frozen;have c3:=h3.cell;have f3:=h3.frozen;have hs:=IS.out;have hb:=IB.out;have he:=IE.out;have hsc:=Zf (F8 p (Yh p) 0 h5);gi_wp2;have m2:=Boxed.other (Boxed.set (.int .i64 ((Yh p).length:Int)) h2) (show b1+1≠b1+1+1 by omega) (.int .i64 0);have m3:=Boxed.set (.int .i64 0) (Boxed.other h3 (show b1+1+1≠b1+1 by omega) (.int .i64 ((Yh p).length:Int)));have hK':((W.setCell ⟨b1+1,0,none⟩ (.int .i64 ((Yh p).length:Int))).setCell ⟨b1+1+1,0,none⟩ (.int .i64 0)).heap[D]?=some (.deferred (some [])):=by
   rw[Below.heap_setCell _ _ _ _ asX,Below.heap_setCell _ _ _ _ asX];exact hK
  have kq:=(((IX.out _).trans h1).trans (Kq.setCell _ ⟨b1+1,0,none⟩ (.int .i64 ((Yh p).length:Int)) (.inl (.inl rfl)))).trans (Kq.setCell _ ⟨b1+1+1,0,none⟩ (.int .i64 0) (.inl (.inr (.inl rfl))));refine⟨asD,.inl ⟨_,_,rfl,run_takeDeferred hK',?_⟩⟩;refine⟨_,FZ _ (b1+1) (b1+1+1) _ _ _ ((MZ hK' rfl rfl _).trans m2.cell) ((MZ hK' rfl rfl _).trans m3.cell) rfl rfl,?_,?_⟩
  ·rw[hsc.out,Zv]
  ·exact Yy ((kq.trans (Kq.putObj _ hK' rfl rfl (.inr asB))).low _ (Zt _) (fun b h=>asB))
 case stop =>
  rintro D W hD ⟨h1,k,z,h2,h3,h4,h5,h6⟩ hK;have hs:=IS.out;have hb:=IB.out;have he:=IE.out;have hsc:=Zf (F9 p (Yh p) 0 k z h2 h3 h4);gi_wp2;refine⟨asD,.inl ⟨_,_,rfl,run_takeDeferred hK,?_⟩⟩;refine⟨_,FZ _ (b1+1) (b1+1+1) _ _ _ ((MZ hK rfl rfl _).trans h5.cell) ((MZ hK rfl rfl _).trans h6.cell) rfl rfl,?_,?_⟩
  ·rw[hsc.out,Zv]
  ·exact Yy ((((IX.out _).trans h1).trans (Kq.putObj _ hK rfl rfl (.inr asB))).low _ (Zt _) (fun b h=>asB))):P:=h
def ajf(h:P:=by
 clear hU Qs hs3 qm;have d2:=c2.cell;have f2:=c2.frozen;have d3:=c3.cell;have f3:=c3.frozen;have C2:=Zf c2;have C3:=Zf c3;clear c2 c3;gi_wp2;refine⟨_,FZ _ (V.heap.size+1) (V.heap.size+1+1) (.int .i64 (-1)) (.int .i64 2) _ (Boxed.other (Boxed.set _ C2.out) asB _).cell (Boxed.set _ (Boxed.other C3.out asB _)).cell rfl rfl,rfl,?_⟩;have kq:=((Kq.plus (fun b=>V.heap.size≤b) V _).trans (by rw[←X9.out];exact Kq.setCell _ ⟨V.heap.size+1,0,none⟩ (.int .i64 (-1)) (by simp))).trans (Kq.setCell _ ⟨V.heap.size+1+1,0,none⟩ (.int .i64 2) asX);exact Yy (kq.low _ (Zt _) (fun b h=>h))):P:=h
def IM(h:P:=by
 have qh1:=Zf (ZK ZG YA.out);have qh2:=Zf (ZK ZG Xg.out);have ZY:=Zf ZG;clear hW ZG cp ci YA Xg Yo Vc Yv W4;exact Jg):P:=h
def ajg(h:P:=by
 open Z renaming acc→TT in exact TZ):P:=h
def ajh(h:P:=by
 open Z renaming ach→TT in exact TZ):P:=h
def aji(h:P:=by
 open Z renaming ab5→TT in exact TZ):P:=h
def ajj(h:P:=by
 open Z renaming ab8→TT in exact TZ):P:=h
def L8(h:P:=by
 go_enter func36,ntmps36;go_upto_region 1 with (fail)
 obtain⟨X,Y0,hX,⟨zX,ZE⟩,ca,cb⟩:=Xu V _ _ 90 47;exact Ln):P:=h
def ajk(h:P:=by
 open Z renaming anE→WL in exact WO):P:=h
def ajl(h:P:=by
 open Z renaming anI→WL in exact WO):P:=h
def ajm(h:P:=by
 open Z renaming anF→WL in exact WO):P:=h
def ajn(h:P:=by
 open Z renaming anG→WL in exact WO):P:=h
def ajo(h:P:=by
 open Z renaming anH→WL in exact WO):P:=h
def Mx(h:P:=by
 have r0:=YS.r0;have r1:=YS.r1;have r2:=YS.r2;have rf:=YS.rf;have Vu:=Zf YS;clear YS hR;go_wp2;exact NS):P:=h
def ajp(h:P:=by
 obtain⟨Z,hZ,g0,g1,g2,hV⟩:=Vu.out.set ⟨tw,false,false⟩;simp only at hZ;rw[hZ];clear hZ;exact bodyPost_ret (v:=.agg #[.int .i64 tw,.bool false,.bool false]) at3 rfl ⟨rfl,hV⟩):P:=h
def ajq(h:P:=by
 obtain⟨Z,hZ,g0,g1,g2,hV⟩:=Vu.out.set ⟨lw,false,(lw==0)⟩;simp only at hZ;rw[hZ];clear hZ;exact bodyPost_ret (v:=.agg #[.int .i64 lw,.bool false,.bool (lw==0)]) at3 rfl ⟨rfl,hV⟩):P:=h
def ajr(h:P:=by
 obtain⟨Z,hZ,g0,g1,g2,hV⟩:=Vu.out.set ⟨0,true,false⟩;simp only at hZ;rw[hZ];clear hZ;exact bodyPost_ret (v:=.agg #[.int .i64 0,.bool true,.bool false]) at3 rfl ⟨rfl,hV⟩):P:=h
def ajs(h:P:=by
 obtain⟨Z,hZ,g0,g1,g2,hV⟩:=Vu.out.set ⟨9,false,false⟩;simp only at hZ;rw[hZ];clear hZ;exact bodyPost_ret (v:=.agg #[.int .i64 9,.bool false,.bool false]) at3 rfl ⟨rfl,hV⟩):P:=h
def ajt(h:P:=by
 obtain⟨Z,hZ,g0,g1,g2,hV⟩:=Vu.out.set ⟨C2,false,false⟩;simp only at hZ;rw[hZ];clear hZ;exact bodyPost_ret (v:=.agg #[.int .i64 C2,.bool false,.bool false]) atL rfl ⟨rfl,hV⟩):P:=h
def aju(h:P:=by
 obtain⟨Z,hZ,g0,g1,g2,hV⟩:=Vu.out.set ⟨tw,tt,tf⟩;simp only at hZ;rw[hZ];clear hZ;exact bodyPost_ret (v:=.agg #[.int .i64 tw,.bool tt,.bool tf]) auk rfl ⟨rfl,hV⟩):P:=h
def uF(h:P:=by
 refine callsIn_of_wp func145 rfl trivial ?_ rfl;simp only[ntmps145,List.size_toArray,Zk,Zl,Nat.reduceAdd,Nat.reduceSub,Array.replicate_succ,Array.replicate_zero,List.push_toArray,List.append_toArray,List.nil_append,List.cons_append];gi_wp2;exact AE):P:=h
def ajv(h:P:=by
 gi_loopw [5,6,9] (fun _ _ iv wr=>∃i:Nat,i≤n∧iv=.int .i64 (i:Int)∧J (Ym+Xd m l i) wr∧Kq S W wr) (fun _ _ iv _=>n-(intOf iv).toNat)
 case atStart=>exact⟨0,Zw _,rfl,YM,Kq.refl _ _⟩
 case round =>
  obtain⟨i,hi,rfl,Xq,hK⟩:=hrel;by_cases ZC:i<n
  ·obtain⟨a,ha⟩:=Yq l i asG
   obtain⟨pa,rfl,We⟩:=XV.out i a ha;have hc:=JC (hw.trans hK) Vn.out We;open Z renaming ID→BI in exact wD
  ·exact Sq):P:=h
def ajw(h:P:=by
 gi_loopw [5,6,9] (fun _ _ iv wr=>∃i:Nat,i≤n∧iv=.int .i64 (i:Int)∧J (Ym+Xd m l i) wr∧Kr S W wr) (fun _ _ iv _=>n-(intOf iv).toNat)
 case atStart=>exact⟨0,Zw _,rfl,YM,Kr.refl _ _⟩
 case round =>
  obtain⟨i,hi,rfl,Xq,hK⟩:=hrel;by_cases ZC:i<n
  ·obtain⟨a,ha⟩:=Yq l i asG
   obtain⟨pa,rfl,We⟩:=XV.out i a ha;have hc:=Fk (hw.trans hK) Vn.out We;open Z renaming IT→BI in exact wD
  ·exact Sq):P:=h
def Dg(h:P:=by
 intro y0;have h1:=h1.up y0;have hc:=hc.plus y0;obtain⟨V,hV⟩:=ZB (plus w y0);rw[hV]at h1 hc ⊢;clear hV;have YA:=Zf h1;have Yo:=Zf hc;clear h1 hc;exact GF):P:=h
def ajx(h:P:=by
 go_enter func31,ntmps31;open Z renaming amG→Wl in exact Wn):P:=h
def ajy(h:P:=by
 go_enter func31,ntmps31;open Z renaming amO→Wl in exact Wn):P:=h
def ajz(h:P:=by
 have Ws:=Zf hv;clear hv;go_enter func114,ntmps114;exact KY):P:=h
def uG(h:P:=by
 refine callsIn_of_wp func67 rfl trivial ?_ rfl;simp only[ntmps67,List.size_toArray,Zk,Zl,Nat.reduceAdd,Nat.reduceSub,Array.replicate_succ,Array.replicate_zero,List.push_toArray,List.append_toArray,List.nil_append,List.cons_append];gi_wp2;exact AF):P:=h
def ajA(h:P:=by
 gi_loopw [5,6,9] (fun _ _ iv wr=>∃i:Nat,i≤n∧iv=.int .i64 (i:Int)∧J (Ym+Xd m l i) wr∧Kq S W wr) (fun _ _ iv _=>n-(intOf iv).toNat)
 case atStart=>exact⟨0,Zw _,rfl,YM,Kq.refl _ _⟩
 case round =>
  obtain⟨i,hi,rfl,Xq,hK⟩:=hrel;by_cases ZC:i<n
  ·obtain⟨a,ha⟩:=Yq l i asG
   open Z renaming agw→Li in exact L3
  ·exact Sq):P:=h
def ajB(h:P:=by
 gi_loopw [5,6,9] (fun _ _ iv wr=>∃i:Nat,i≤n∧iv=.int .i64 (i:Int)∧J (Ym+Xd m l i) wr∧Kr S W wr) (fun _ _ iv _=>n-(intOf iv).toNat)
 case atStart=>exact⟨0,Zw _,rfl,YM,Kr.refl _ _⟩
 case round =>
  obtain⟨i,hi,rfl,Xq,hK⟩:=hrel;by_cases ZC:i<n
  ·obtain⟨a,ha⟩:=Yq l i asG
   open Z renaming agB→Lj in exact L4
  ·exact Sq):P:=h
def uI(h:P:=by
 refine callsIn_of_wp func69 rfl trivial ?_ rfl;simp only[ntmps69,List.size_toArray,Zk,Zl,Nat.reduceAdd,Nat.reduceSub,Array.replicate_succ,Array.replicate_zero,List.push_toArray,List.append_toArray,List.nil_append,List.cons_append];gi_wp2;exact AG):P:=h
def ajC(h:P:=by
 gi_loopw [5,6,9] (fun _ _ iv wr=>∃i:Nat,i≤n∧iv=.int .i64 (i:Int)∧J (Ym+Xd m l i) wr∧Kq S W wr) (fun _ _ iv _=>n-(intOf iv).toNat)
 case atStart=>exact⟨0,Zw _,rfl,YM,Kq.refl _ _⟩
 case round =>
  obtain⟨i,hi,rfl,Xq,hK⟩:=hrel;by_cases ZC:i<n
  ·obtain⟨a,ha⟩:=Yq l i asG
   open Z renaming agx→Li in exact L3
  ·exact Sq):P:=h
def ajD(h:P:=by
 gi_loopw [5,6,9] (fun _ _ iv wr=>∃i:Nat,i≤n∧iv=.int .i64 (i:Int)∧J (Ym+Xd m l i) wr∧Kr S W wr) (fun _ _ iv _=>n-(intOf iv).toNat)
 case atStart=>exact⟨0,Zw _,rfl,YM,Kr.refl _ _⟩
 case round =>
  obtain⟨i,hi,rfl,Xq,hK⟩:=hrel;by_cases ZC:i<n
  ·obtain⟨a,ha⟩:=Yq l i asG
   open Z renaming agC→Lj in exact L4
  ·exact Sq):P:=h
def uJ(h:P:=by
 refine callsIn_of_wp func72 rfl trivial ?_ rfl;simp only[ntmps72,List.size_toArray,Zk,Zl,Nat.reduceAdd,Nat.reduceSub,Array.replicate_succ,Array.replicate_zero,List.push_toArray,List.append_toArray,List.nil_append,List.cons_append];gi_wp2;exact AH):P:=h
def ajE(h:P:=by
 gi_loopw [5,6,9] (fun _ _ iv wr=>∃i:Nat,i≤n∧iv=.int .i64 (i:Int)∧J (Ym+Xd m l i) wr∧Kq S W wr) (fun _ _ iv _=>n-(intOf iv).toNat)
 case atStart=>exact⟨0,Zw _,rfl,YM,Kq.refl _ _⟩
 case round =>
  obtain⟨i,hi,rfl,Xq,hK⟩:=hrel;by_cases ZC:i<n
  ·obtain⟨a,ha⟩:=Yq l i asG
   open Z renaming agy→Li in exact L3
  ·exact Sq):P:=h
def ajF(h:P:=by
 gi_loopw [5,6,9] (fun _ _ iv wr=>∃i:Nat,i≤n∧iv=.int .i64 (i:Int)∧J (Ym+Xd m l i) wr∧Kr S W wr) (fun _ _ iv _=>n-(intOf iv).toNat)
 case atStart=>exact⟨0,Zw _,rfl,YM,Kr.refl _ _⟩
 case round =>
  obtain⟨i,hi,rfl,Xq,hK⟩:=hrel;by_cases ZC:i<n
  ·obtain⟨a,ha⟩:=Yq l i asG
   open Z renaming agD→Lj in exact L4
  ·exact Sq):P:=h
def uK(h:P:=by
 refine callsIn_of_wp func74 rfl trivial ?_ rfl;simp only[ntmps74,List.size_toArray,Zk,Zl,Nat.reduceAdd,Nat.reduceSub,Array.replicate_succ,Array.replicate_zero,List.push_toArray,List.append_toArray,List.nil_append,List.cons_append];gi_wp2;exact AI):P:=h
def ajG(h:P:=by
 gi_loopw [5,6,9] (fun _ _ iv wr=>∃i:Nat,i≤n∧iv=.int .i64 (i:Int)∧J (Ym+Xd m l i) wr∧Kq S W wr) (fun _ _ iv _=>n-(intOf iv).toNat)
 case atStart=>exact⟨0,Zw _,rfl,YM,Kq.refl _ _⟩
 case round =>
  obtain⟨i,hi,rfl,Xq,hK⟩:=hrel;by_cases ZC:i<n
  ·obtain⟨a,ha⟩:=Yq l i asG
   open Z renaming agz→Li in exact L3
  ·exact Sq):P:=h
def ajH(h:P:=by
 gi_loopw [5,6,9] (fun _ _ iv wr=>∃i:Nat,i≤n∧iv=.int .i64 (i:Int)∧J (Ym+Xd m l i) wr∧Kr S W wr) (fun _ _ iv _=>n-(intOf iv).toNat)
 case atStart=>exact⟨0,Zw _,rfl,YM,Kr.refl _ _⟩
 case round =>
  obtain⟨i,hi,rfl,Xq,hK⟩:=hrel;by_cases ZC:i<n
  ·obtain⟨a,ha⟩:=Yq l i asG
   open Z renaming agE→Lj in exact L4
  ·exact Sq):P:=h
def uM(h:P:=by
 refine callsIn_of_wp func76 rfl trivial ?_ rfl;simp only[ntmps76,List.size_toArray,Zk,Zl,Nat.reduceAdd,Nat.reduceSub,Array.replicate_succ,Array.replicate_zero,List.push_toArray,List.append_toArray,List.nil_append,List.cons_append];gi_wp2;exact AJ):P:=h
def ajI(h:P:=by
 gi_loopw [5,6,9] (fun _ _ iv wr=>∃i:Nat,i≤n∧iv=.int .i64 (i:Int)∧J (Ym+Xd m l i) wr∧Kq S W wr) (fun _ _ iv _=>n-(intOf iv).toNat)
 case atStart=>exact⟨0,Zw _,rfl,YM,Kq.refl _ _⟩
 case round =>
  obtain⟨i,hi,rfl,Xq,hK⟩:=hrel;by_cases ZC:i<n
  ·obtain⟨a,ha⟩:=Yq l i asG
   open Z renaming agA→Li in exact L3
  ·exact Sq):P:=h
def ajJ(h:P:=by
 gi_loopw [5,6,9] (fun _ _ iv wr=>∃i:Nat,i≤n∧iv=.int .i64 (i:Int)∧J (Ym+Xd m l i) wr∧Kr S W wr) (fun _ _ iv _=>n-(intOf iv).toNat)
 case atStart=>exact⟨0,Zw _,rfl,YM,Kr.refl _ _⟩
 case round =>
  obtain⟨i,hi,rfl,Xq,hK⟩:=hrel;by_cases ZC:i<n
  ·obtain⟨a,ha⟩:=Yq l i asG
   open Z renaming agF→Lj in exact L4
  ·exact Sq):P:=h
def IR(h:P:=by
 go_enter func28,ntmps28;go_upto_region 1 with (fail)
 obtain⟨X,Y0,hX,⟨zX,ZE⟩,-,ca,cb,cc,fc⟩:=Tb V _ _ _ 90 45 75;exact Jh):P:=h
def ajK(h:P:=by
 open Z renaming ano→WL in exact WO):P:=h
def ajL(h:P:=by
 open Z renaming anp→WL in exact WO):P:=h
def ajM(h:P:=by
 open Z renaming anq→WL in exact WO):P:=h
def ajN(h:P:=by
 open Z renaming ant→WL in exact WO):P:=h
def uN(h:P:=by
 intro y0;have h1:=h1.up y0;have h2:=h2.up y0;have h3:=h3.up y0;have hc:=hc.plus y0;obtain⟨W,hW⟩:=ZB (plus w y0);rw[hW]at h1 h2 h3 hc ⊢;clear hW;have YA:=Zf h1;have Xg:=Zf h2;have VP:=Zf h3;have Yo:=Zf hc;clear h1 h2 h3 hc;exact AK):P:=h
def ajO(h:P:=by
 open Z renaming aqG→Pq in exact PT):P:=h
def ajQ(h:P:=by
 open Z renaming aqJ→Pq in exact PT):P:=h
def Dh(h:P:=by
 intro y0;have kt:=kt.up y0;have kg:=kg.up y0;obtain⟨V,hV⟩:=ZB (plus w y0);rw[hV]at kt kg ⊢;clear hV;have kt':=Zf kt;have kg':=Zf kg;clear kt kg;exact GG):P:=h
def ajR(h:P:=by
 go_enter func100,ntmps100;go_upto_region 1 with (fail)
 obtain⟨X,Y0,hX,⟨zX,ZE⟩,ca,cb⟩:=Xu V _ _ 90 45;open Z renaming anx→WL in exact WO):P:=h
def ajS(h:P:=by
 open Z renaming ak4→Jk in exact IY):P:=h
def ajT(h:P:=by
 open Z renaming ajk→Ln in exact L8):P:=h
def Di(h:P:=by
 have q1:(a1.toList==[])=false:=asJ;have q1x:¬a1.toList=[]:=asJ;have q1y:(a1.toList !=[])=true:=asJ;exact GH):P:=h
def ajU(h:P:=by
 open Z renaming Hk→WV in exact WX):P:=h
def ajV(h:P:=by
 cases s2
 case false =>
  open Z renaming ast→WV in exact WX
 case true =>
  cases s3
  case false =>
   open Z renaming qn→WV in exact WX
  case true =>
   open Z renaming qn→SJ in exact SW):P:=h
def Dj(h:P:=by
 refine Wj 6 asC asC ?_;simp only[Zs,List.take_zero,Zg,Zh];exact GJ):P:=h
def ajW(h:P:=by
 repeat (go_big_quiet_step (first|(with_reducible exact q2.out _)))
 refine wpQuiet_nil ?_;rintro _ ⟨y1,rfl⟩;by_cases WH:E=0
 ·subst WH
  exact rj
 ·have YH:(E !=0)=true:=by simpa using WH
  go_wp2;go_ret;exact⟨congrArg (fun z=>Zd (Zz .i64 z)) ((Qk _ k E Vf.out hJ.out WH).symm.trans ZR.out),as6⟩):P:=h
def L9(h:P:=by
 go_enter func62,ntmps62;go_wp2_with fail;obtain⟨W,yy,hW,⟨z,hz⟩,cb0,cb1⟩:=Xu V _ _ 117 58;exact Lo):P:=h
def ajY(h:P:=by
 open Z renaming arI→N8 in exact ML):P:=h
def ajZ(h:P:=by
 open Z renaming arE→N8 in exact ML):P:=h
def aj0(h:P:=by
 open Z renaming arF→N8 in exact ML):P:=h
def aj1(h:P:=by
 open Z renaming arG→N8 in exact ML):P:=h
def uO(h:P:=by
 have n1:(a0==1)=false:=asM;have n2:(a0==2)=false:=asM;have n3:(a0==3)=false:=asM;have n4:(a0==4)=false:=asM;have n5:(a0==5)=false:=asM;have n6:(a0==6)=false:=asM;exact AL):P:=h
def aj2(h:P:=by
 have n10:(a0==10)=false:=asM;have g7:(7:Int)≤a0:=asB;have g9:¬a0≤9:=asB;have g11:(11:Int)≤a0:=asB;exact BZ):P:=h
def aj3(h:P:=by
 have n7:(a0==7)=false:=asM;clear hk;open Z renaming adq→Oy in exact OW):P:=h
def Ka(h:P:=by
 go_wp2_with (first|(go_at_call 104;with_reducible refine (q0c.out _).mono ?_;rintro r w' ⟨rfl,x,rfl⟩));exact Lp):P:=h
def aj4(h:P:=by
 go_meet;first|exact⟨congrArg Zy hF.out,_,rfl⟩|exact⟨congrArg Zy (Eq.trans (by simp[q1,q2]) hF.out),_,rfl⟩):P:=h
def aj5(h:P:=by
 go_meet;first|exact⟨congrArg Zy hF.out,_,rfl⟩|exact⟨congrArg Zy (Eq.trans (by simp[q1,q2,q3]) hF.out),_,rfl⟩):P:=h
def aj6(h:P:=by
 go_meet;first|exact⟨congrArg Zy hF.out,_,rfl⟩|exact⟨congrArg Zy (Eq.trans asD hF.out),_,rfl⟩):P:=h
def uP(h:P:=by
 go_wp2_with (first|(go_at_call 116;with_reducible refine (qb.out _).mono ?_;rintro r w' ⟨rfl,x,rfl⟩));obtain⟨V,hV,g0,g1,g2,hz⟩:=VC NG.out (W.heap.size+1+1) asB _ _ _ _ (.int .i64 0) (.bool false) (.bool false) r0 r1 r2;rw[hV];clear hV;exact AM):P:=h
def aj7(h:P:=by
 exact bodyPost_ret (v:=.tuple #[.agg #[.int .i64 0,.bool false,.bool false],.int .i64 5]) atj rfl ⟨rfl,hz⟩):P:=h
def aj8(h:P:=by
 exact bodyPost_ret (v:=.tuple #[.agg #[.int .i64 0,.bool false,.bool false],.int .i64 B]) atj rfl ⟨rfl,hz⟩):P:=h
def uQ(h:P:=by
 intro i x W1 hx hK Xq;have hm:x∈p.tables.l:=Zo hx;have q0:=YW Ta.sz p.tables.l x hm;have q1:=XM Ke.sz (fun y=>by unfold Ke.sz;omega) x.keys.l;have q2:=XM Y1 (fun y=>as8) x.actions.l;exact AN):P:=h
def aj9(h:P:=by
 exact aaw l (Yh p) S J Jx hR i x.name x.dflt.name x.keys.p x.actions.p x.dflt.args.p x.keys.l.length x.keys.cap x.actions.l.length x.actions.cap x.dflt.args.l.length x.dflt.args.cap at4 at4 _ auH W1 (Xb W1 (hV.trans hK)) Xq):P:=h
def aka(h:P:=by
 exact aax l (Yh p) S J Jx hR i x.name x.dflt.name x.keys.p x.actions.p x.dflt.args.p x.keys.l.length x.keys.cap x.actions.l.length x.actions.cap x.dflt.args.l.length x.dflt.args.cap at4 at4 _ auH W1 (Xb W1 (hV.trans hK)) Xq):P:=h
def uR(h:P:=by
 intro i x W1 hx hK Xq;have hm:x∈p.states.l:=Zo hx;have q0:=YW Sa.sz p.states.l x hm;have q1:=XM Y1 (fun y=>as8) x.takes.l;have q2:=XM Ca.sz (fun y=>by unfold Ca.sz;omega) x.cases.l;exact AO):P:=h
def akb(h:P:=by
 exact aau l (Yh p) S J Jx hR i x.name x.tX9 x.takes.p x.keys.p x.cases.p x.takes.l.length x.takes.cap x.keys.l.length x.keys.cap x.cases.l.length x.cases.cap at5 at5 _ auI W1 (Xb W1 (hV.trans hK)) Xq):P:=h
def akc(h:P:=by
 exact aav l (Yh p) S J Jx hR i x.name x.tX9 x.takes.p x.keys.p x.cases.p x.takes.l.length x.takes.cap x.keys.l.length x.keys.cap x.cases.l.length x.cases.cap at5 at5 _ auI W1 (Xb W1 (hV.trans hK)) Xq):P:=h
def My(h:P:=by
 have q3x:a5.toList=[]:=asP;have q3y:(a5.toList !=[])=false:=asP;exact NT):P:=h
def akd(h:P:=by
 cases s0
 case false =>
  open Z renaming Hi→SI in exact SV
 case true =>
  by_cases q4:(a6==0)=true
  case neg =>
   have q4:(a6==0)=false:=atf;open Z renaming Hi→NQ in exact Mv
  case pos =>
   by_cases q5:(a7==0)=true
   case neg =>
    have q5:(a7==0)=false:=atn;open Z renaming Hi→Lm in exact L7
   case pos =>
    have hF:=Zf (show (true)=R by first|exact hR|(rw[←hR];simp[q1,q2,q3,q4,q5]));exact Hi):P:=h
def ake(h:P:=by
 open Z renaming DL→SI in exact SV):P:=h
def akf(h:P:=by
 by_cases q4:(a1==0)=true
 case neg =>
  exact rV
 case pos =>
  by_cases q5:(a2==0)=true
  case neg =>
   exact rW
  case pos =>
   by_cases q6:(a3==0)=true
   case neg =>
    exact rY
   case pos =>
    by_cases q7:(a6==0)=true
    case neg =>
     have q7:(a6==0)=false:=by simpa using q7
     exact rZ
    case pos =>
     by_cases q8:(a7==0)=true
     case neg =>
      have q8:(a7==0)=false:=by simpa using q8
      exact qa
     case pos =>
      open Z renaming Qd→GW in exact Du):P:=h
def akg(h:P:=by
 by_cases q4:(a1==0)=true
 case neg =>
  exact rV
 case pos =>
  by_cases q5:(a2==0)=true
  case neg =>
   exact rW
  case pos =>
   by_cases q6:(a3==0)=true
   case neg =>
    exact rY
   case pos =>
    by_cases q7:0≤a7
    case neg =>
     exact rZ
    case pos =>
     by_cases q8:a7≤a6
     case neg =>
      exact qa
     case pos =>
      by_cases q9:a6≤127
      case neg =>
       have hF:=Zf (show (false)=R by first|exact hR|(rw[←hR];simp[q1,q2,q3,q4,q5,q6,q7,q8,q9]));exact Qd
      case pos =>
       have hF:=Zf (show (true)=R by first|exact hR|(rw[←hR];simp[q1,q2,q3,q4,q5,q6,q7,q8,q9]));exact Qd):P:=h
def uT(h:P:=by
 obtain⟨W,hW,hB,hs,ca,cr,fa,fr⟩:=QM w _ _ 40 40;rw[←hW];have ca0:=ca 0 (some (.int .u64 (hi n))) rfl;have ca1:=ca 1 (some (.int .u64 (lo n))) rfl;have cr0:=cr 0 (some (.int .u64 0)) rfl;have cr1:=cr 1 (some (.int .u64 0)) rfl;clear hW fa ca cr;exact AP):P:=h
def akh(h:P:=by
 refine (BA _ _ W).mono ?_;rintro e w' ⟨rfl,y,rfl⟩;go_wp2
 ·have hk:64≤Vo k 128:=by assumption
  exact bodyPost_ret (v:=.agg #[.int .u64 0,.int .u64 (hi n / 2 ^ (Vo k 128-64).toNat)]) (by simp[results,Tryz.results229,go_sem,cr0,cr1]) rfl ⟨congrArg Zd (bT n _ hk hn),OK hB asB _ _⟩
 ·have hk:Vo k 128<64:=by assumption
  refine Wj 15 asC asC ?_;simp only[Zs,List.take_zero,Zg,Zh];repeat (go_big_quiet_step (fail))
  refine wpQuiet_nil ?_;rintro _ ⟨y,rfl⟩;go_wp2;exact bodyPost_ret (v:=.agg #[.int .u64 (hi n / 2 ^ (Vo k 128).toNat),.int .u64 (bits .or .u64 (lo n / 2 ^ (Vo k 128).toNat) (IntKind.u64.wrap (hi n*2 ^ (64-Vo k 128).toNat)))]) (by simp[results,Tryz.results229,go_sem,cr0,cr1]) rfl ⟨congrArg Zd (bU n _ h0 hk),OK hB asB _ _⟩):P:=h
def aki(h:P:=by
 refine EH 4 asC asC ?_;simp only[Zs,List.take_zero,Zg,Zh];repeat (go_big_quiet_step (first|(go_at_call 226;exact (gz _).at _ _)|(go_at_call 225;exact S.out.at _ _)))
 refine wpQuiet_nil ?_;rintro _ ⟨y,rfl⟩;go_wp2;exact bodyPost_ret (v:=.agg #[.int .u64 (hi (n % 2 ^ hw k)),.int .u64 (lo (n % 2 ^ hw k))]) (by simp[results,Tryz.results216,go_sem,cr0,cr1]) rfl ⟨rfl,OK hB asB _ _⟩):P:=h
def IU(h:P:=by
 intro g cap W5 g2 g3 _ _;have ne5:∀a:Addr,a.block=cb∨a.block=eb→some a.block≠kv.ownBlock:=fun a ha e=>by
  exact amm
 exact Ji):P:=h
def akj(h:P:=by
 refine hK.out _ _ (Bj.keep (fun j v _ q=>(g3.cell_far _ hI15 (ne5 _ (.inl rfl))).trans q) (fun j v q=>(g3.cell_far _ hJ15 (ne5 _ (.inr rfl))).trans q)) (fun Bk=>?_);clear hK K;have B5:Ww W5 cb p kv:=(g3.block cb hI15 (ne5 ⟨cb,0,none⟩ (.inl rfl))).trans hB15;have G2:=Zf g2;have G3:=Zf g3;clear g2 g3 hO15 hB15;open Z renaming alH→Jo in exact I5):P:=h
def akk(h:P:=by
 refine hK.out _ _ (Bo.keep (fun j v _ q=>(g3.cell_far _ hI20 (ne5 _ (.inl rfl))).trans q) (fun j v q=>(g3.cell_far _ hJ20 (ne5 _ (.inr rfl))).trans q)) (fun Bp=>?_);clear hK K;have B5:Ww W5 cb p kv:=(g3.block cb hI20 (ne5 ⟨cb,0,none⟩ (.inl rfl))).trans hB20;have G2:=Zf g2;have G3:=Zf g3;clear g2 g3 hO20 hB20;open Z renaming alI→Jo in exact I5):P:=h
def akl(h:P:=by
 refine hK.out _ _ (Bq.keep (fun j v _ q=>(g3.cell_far _ hI24 (ne5 _ (.inl rfl))).trans q) (fun j v q=>(g3.cell_far _ hJ24 (ne5 _ (.inr rfl))).trans q)) (fun Br=>?_);clear hK K;have B5:Ww W5 cb p kv:=(g3.block cb hI24 (ne5 ⟨cb,0,none⟩ (.inl rfl))).trans hB24;have G2:=Zf g2;have G3:=Zf g3;clear g2 g3 hO24 hB24;open Z renaming alJ→Jo in exact I5):P:=h
def akm(h:P:=by
 refine hK.out _ _ (hHeld26.keep (fun j v _ q=>(g3.cell_far _ hI27 (ne5 _ (.inl rfl))).trans q) (fun j v q=>(g3.cell_far _ hJ27 (ne5 _ (.inr rfl))).trans q)) (fun Bu=>?_);clear hK K;have B5:Ww W5 cb p kv:=(g3.block cb hI27 (ne5 ⟨cb,0,none⟩ (.inl rfl))).trans hB27;have G2:=Zf g2;have G3:=Zf g3;clear g2 g3 hO27 hB27;open Z renaming alK→Jo in exact I5):P:=h
def Dl(h:P:=by
 have qkt:=Zf (Xf ZE kt'.out);have hz:=Zf ZE;clear hX ca cb ZE kt';go_wp2_with fail;refine (qkt.out _).mono ?_;rintro r w' ⟨rfl,x1,rfl⟩;clear qkt;exact GL):P:=h
def akn(h:P:=by
 go_wp2;exact⟨rfl,rfl,att⟩):P:=h
def ako(h:P:=by
 go_upto_region 2 with (fail)
 obtain⟨X2,Y2,XP,⟨Xt,ZG⟩,cc⟩:=YO (plus X x1) #[.int .i64 tw,.bool true,.bool tf] 75;rw[XP];have t0:=cc 0 _ rfl;have t1:=cc 1 _ rfl;have t2:=cc 2 _ rfl;open Z renaming aky→GN in exact Dn):P:=h
def akp(h:P:=by
 go_upto_region 2 with (fail)
 obtain⟨X2,Y2,XP,⟨Xt,ZG⟩,cc⟩:=YO (plus X x1) #[.int .i64 tw,.bool false,.bool false] 75;rw[XP];have t0:=cc 0 _ rfl;have t1:=cc 1 _ rfl;have t2:=cc 2 _ rfl;open Z renaming akz→GN in exact Dn):P:=h
def uV(h:P:=by
 intro e;induction e using Ex.ind with
 | _ e ih =>
 intro n w hm ZF he hb;have YC:=Ex.ty_eq p act e;cases n with
 | zero=>simp[Ex.may]at hm
 | succ n =>
 rw[Ex.may]at hm;simp only[Zc]at hm;obtain⟨-,hfit,hk⟩:=hm;have Xw:=Uo hk;exact AQ):P:=h
def akq(h:P:=by
 unfold Ex.fits at hfit;simp only[Zc]at hfit;obtain⟨-,-,-,VW,-⟩:=hfit;have Wk:=Ex.wt_eq e;have hlf:=aI p w ZF hz act e he hb;have Qr:=fun t h=>aK e t w h;have htwo:=fun x y s t=>aL e x y s t w he;obtain⟨⟨R,t⟩,hR⟩:∃R,e.ty p act=R:=⟨_,rfl⟩;rw[hR]at YC ⊢;clear hR hk;obtain⟨_,_,WU,_,_,_,_,_,_,Yj,Xj⟩:=he;obtain⟨op,⟨lw,lh,ll⟩,hd,nm,eh,el,ep,cap,args⟩:=e;simp only[Ex.args,Ex.head,Ex.name,Ex.p,Ex.op,Ex.lit,Ex.hi,Ex.lo]at ih Yj Xj Wk YC Xw VW hlf Qr htwo;rw[Wk]at hb;clear Wk WU;cases args with
 | nil =>
  simp only[List.map_nil,R7]at YC;have hlf:=hlf rfl;rw[←YC]at hlf;simp only at hlf ⊢;clear Qr htwo;by_cases r0:R=0
  ·subst r0
   exact aaC _ _ _ _ _ _ _ _ _ _ _ _ _ _ _ _ _ _ _ _ _ act _ _ _ _ _ _ _ _ _ _ op t.w t.tr t.fr w rfl hlf
  ·rw[VH r0]at hlf ⊢
   exact aaD _ _ _ _ _ _ _ _ _ _ _ _ _ _ _ _ _ _ _ _ _ act _ _ _ _ _ _ _ _ _ _ op R w rfl hlf
 | cons a l =>
  have Ti:=List.mem_cons_self (a:=a) (l:=l);have hea:=YW Ex.wt (a :: l) a Ti;have ka:=ih a Ti n w (Xw a Ti) ZF (Xj a Ti) asB;have wa:=Ex.ty_wide p hW act a n (Xw a Ti);have fa:=Ex.ty_fine p act a;obtain⟨pa,Yw,hc⟩:=Yj 0 a rfl;simp only[Nat.zero_mul,Addr.add_zero']at hc;simp only[Zm,R7]at YC;obtain⟨⟨ra,ta⟩,hRa⟩:∃r,a.ty p act=r:=⟨_,rfl⟩;rw[hRa]at ka YC wa fa;have XQ:0<(a :: l).length:=Nat.succ_pos _;subst Yw;clear hlf;by_cases r0:ra=0
  ·subst r0
   rw[CY]at ka;simp only[ne_eq,not_true_eq_false,if_false]at YC;have wa:=wa rfl;have fa:=fa rfl;have kw:=Mk ta w;by_cases o14:op=14
   ·subst o14
    rw[if_pos asE]at YC;by_cases q:Yz ta=0
    ·rw[if_neg asW]at YC
     rw[if_pos q]at kw;obtain⟨rfl,rfl⟩:R=0∧t=ta:=atA;obtain⟨tw,tt,tf⟩:=t;obtain⟨rfl,rfl⟩:tt=false∧tf=false:=S6 q;exact aaG _ _ _ _ _ _ _ _ _ _ _ _ _ _ _ _ _ _ _ _ _ act _ _ _ _ _ _ _ pa _ _ tw _ _ _ _ _ _ _ _ _ _ _ w XQ hc ka kw
    ·rw[if_pos q]at YC
     rw[if_neg q]at kw;obtain⟨rfl,rfl⟩:R=Yz ta∧t=XH:=atA;simp only;rw[VH q];exact aaH _ _ _ _ _ _ _ _ _ _ _ _ _ _ _ _ _ _ _ _ _ act _ _ _ _ _ _ _ pa _ _ ta.w ta.tr ta.fr _ _ _ _ _ _ _ _ _ _ _ _ w XQ hc ka kw
   by_cases o15:op=15
   ·subst o15
    rw[if_pos asE]at YC;by_cases q:Yz ta=0
    ·rw[if_neg asW]at YC
     rw[if_pos q]at kw;obtain⟨rfl,rfl⟩:R=0∧t=ta:=atA;obtain⟨tw,tt,tf⟩:=t;obtain⟨rfl,rfl⟩:tt=false∧tf=false:=S6 q;exact aaI _ _ _ _ _ _ _ _ _ _ _ _ _ _ _ _ _ _ _ _ _ act _ _ _ _ _ _ _ pa _ _ tw _ _ _ _ _ _ _ _ _ _ _ w XQ hc ka kw
    ·rw[if_pos q]at YC
     rw[if_neg q]at kw;obtain⟨rfl,rfl⟩:R=Yz ta∧t=XH:=atA;simp only;rw[VH q];exact aaJ _ _ _ _ _ _ _ _ _ _ _ _ _ _ _ _ _ _ _ _ _ act _ _ _ _ _ _ _ pa _ _ ta.w ta.tr ta.fr _ _ _ _ _ _ _ _ _ _ _ _ w XQ hc ka kw
   rw[if_neg asB]at YC;have o14':(op==14)=false:=by simpa using o14
   have o15':(op==15)=false:=by simpa using o15
   clear kw;cases l with
   | nil =>
    simp only[List.map_nil]at YC;have kO:=Qr ta (fun h1 h2=>by
     have hb2:=S6 h1;have UT:1≤ta.w∧ta.w≤128:=wa hb2.1 hb2.2;have he2:0≤el∧el≤eh∧eh<128:=by
      unfold Sw at VW;split at VW <;> simp only[Zc,decide_eq_true_eq,beq_iff_eq]at VW <;> omega
     have e1:wrap64 (eh-el)=eh-el:=QH asB asB;rw[e1];exact QH asB asB)
    rw[←YC]at kO;simp only at kO ⊢;by_cases r1:R=0
    ·subst r1
     exact aaE _ _ _ _ _ _ _ _ _ _ _ _ _ _ _ _ _ _ _ _ _ act _ _ _ _ _ _ _ pa _ _ op ta.w ta.tr ta.fr _ _ _ _ _ _ _ _ _ _ _ t.w t.tr t.fr w rfl hc o14' o15' ka kO
    ·rw[VH r1]at kO ⊢
     exact aaF _ _ _ _ _ _ _ _ _ _ _ _ _ _ _ _ _ _ _ _ _ act _ _ _ _ _ _ _ pa _ _ op ta.w ta.tr ta.fr _ _ _ _ _ _ _ _ _ _ _ R w rfl hc o14' o15' ka kO
   | cons d l =>
    simp only[Zm]at YC;have hmd:d∈a :: d :: l:=asD;have hed:=YW Ex.wt (a :: d :: l) d hmd;have kd:=ih d hmd n w (Xw d hmd) ZF (Xj d hmd) asB;have wd:=Ex.ty_wide p hW act d n (Xw d hmd);have fd:=Ex.ty_fine p act d;obtain⟨pb,Xx,hcd⟩:=Yj 1 d rfl;obtain rfl:=Option.some.inj Xx;simp only[Nat.one_mul]at hcd;rw[show pa.add 9=⟨pa.block,pa.off+9,none⟩ by simp[Addr.add]]at hcd;obtain⟨⟨rd,td⟩,hRd⟩:∃r,d.ty p act=r:=⟨_,rfl⟩;rw[hRd]at kd YC wd fd;have hn:(((a :: d :: l).length:Int)==1)=false:=asM;have XK:1<(a :: d :: l).length:=asD;by_cases r1:rd=0
    ·subst r1
     rw[CY]at kd;simp only[not_true_eq_false,if_false]at YC;have wd:=wd rfl;have fd:=fd rfl;have kO:=htwo a d ta td rfl rfl fa.2 fd.2 (fun h1 h2=>by
      have hb1:=S6 h1;have hb2:=S6 h2;have hw1:1≤ta.w∧ta.w≤128:=wa hb1.1 hb1.2;have UT:1≤td.w∧td.w≤128:=wd hb2.1 hb2.2;exact⟨QH asB asB,fun _=>QH asB asB⟩)
     rw[←YC]at kO;simp only at kO ⊢;by_cases r2:R=0
     ·subst r2
      exact aaK _ _ _ _ _ _ _ _ _ _ _ _ _ _ _ _ _ _ _ _ _ act _ _ _ _ _ _ _ pa _ _ op ta.w ta.tr ta.fr _ _ _ _ _ _ _ _ _ _ _ _ _ _ _ _ _ _ _ _ _ _ td.w td.tr td.fr t.w t.tr t.fr w XQ XK hn hc hcd o14' o15' ka kd kO
     ·rw[VH r2]at kO ⊢
      exact aaM _ _ _ _ _ _ _ _ _ _ _ _ _ _ _ _ _ _ _ _ _ act _ _ _ _ _ _ _ pa _ _ op ta.w ta.tr ta.fr _ _ _ _ _ _ _ _ _ _ _ _ _ _ _ _ _ _ _ _ _ _ R td.w td.tr td.fr w XQ XK hn hc hcd o14' o15' ka kd kO
    ·rw[if_pos (by simpa using r1)]at YC
     obtain⟨rfl,rfl⟩:R=rd∧t=XH:=atA;rw[VH r1]at kd ⊢;exact aaL _ _ _ _ _ _ _ _ _ _ _ _ _ _ _ _ _ _ _ _ _ act _ _ _ _ _ _ _ pa _ _ op ta.w ta.tr ta.fr _ _ _ _ _ _ _ _ _ _ _ _ _ _ _ _ _ _ _ _ _ _ R w XQ XK hn hc hcd o14' o15' ka kd
  ·rw[if_pos (by simpa using r0)]at YC
   obtain⟨rfl,rfl⟩:R=ra∧t=XH:=atA;simp only;rw[VH r0]at ka ⊢;exact aaB _ _ _ _ _ _ _ _ _ _ _ _ _ _ _ _ _ _ _ _ _ act _ _ _ _ _ _ _ pa _ _ op R _ _ _ _ _ _ _ _ _ _ _ w XQ hc ka):P:=h
def akr(h:P:=by
 have XQ:=(M0 hk).2;unfold Ex.fits at hfit;simp only[Zc]at hfit;obtain⟨-,-,-,VW,hnum,-⟩:=hfit;obtain⟨⟨RE,⟨rw,rt,rf⟩⟩,hR⟩:∃R,e.ty p act=R:=⟨_,rfl⟩;rw[hR]at YC ⊢;obtain⟨op,⟨lw,lh,ll⟩,hd,nm,eh,el,ep,cap,args⟩:=e;obtain⟨_,_,WU,_,_,_,_,_,_,Yj,Xj⟩:=he;have Wk:=Ex.wt_eq (.mk op ⟨lw,lh,ll⟩ hd nm eh el ep cap args);simp only[Ex.args,Ex.head,Ex.name,Ex.p,Ex.op,Ex.lit,Ex.hi,Ex.lo]at ih Yj Xj Wk YC Xw XQ VW hnum;rw[Wk]at hb;clear Wk hR hk WU;show Calls Zx 115 #[.agg #[.slice p.headers.p p.headers.l.length p.headers.cap,.slice p.metas.p p.metas.l.length p.metas.cap,.slice p.states.p p.states.l.length p.states.cap,.slice p.actions.p p.actions.l.length p.actions.cap,.slice p.tables.p p.tables.l.length p.tables.cap,.slice p.control.p p.control.l.length p.control.cap,.slice p.emit.p p.emit.l.length p.emit.cap],.int .i64 act,.agg #[.int .u8 op,.int .i64 lw,.int .u64 lh,.int .u64 ll,.string hd,.string nm,.int .i64 eh,.int .i64 el,.slice ep args.length cap]] w _
 cases args with
 | nil =>
  simp only[List.map_nil,R7]at YC;have h1:=eL p w ZF hz act op lw lh ll hd nm eh el ep 0 cap;rw[←YC]at h1;exact eV p act op lw lh ll hd nm eh el ep cap RE rw rt rf w h1
 | cons a l =>
  have Ti:=List.mem_cons_self (a:=a) (l:=l);have hea:=YW Ex.wt (a :: l) a Ti;have ZL:Kp Zx w 115 #[.agg #[.slice p.headers.p p.headers.l.length p.headers.cap,.slice p.metas.p p.metas.l.length p.metas.cap,.slice p.states.p p.states.l.length p.states.cap,.slice p.actions.p p.actions.l.length p.actions.cap,.slice p.tables.p p.tables.l.length p.tables.cap,.slice p.control.p p.control.l.length p.control.cap,.slice p.emit.p p.emit.l.length p.emit.cap],.int .i64 act,a.val] (VD (a.ty p act)):=Kp.of (fun W2 XJ=>ih a Ti n W2 (Xw a Ti) atw (by obtain⟨y,h⟩:=XJ;rw[h];exact (Xj a Ti).plus y) asB);have wa:=Ex.ty_wide p hW act a n (Xw a Ti);have fa:=Ex.ty_fine p act a;have ffa:(a.ty p act).1=0→(a.ty p act).2.fr=true→Nf w (a :: l) 0 a.free:=fun h g=>⟨a,rfl,fun k=>Kp.of (fun W2 XJ=>FM k a W2 (by obtain⟨y,h⟩:=XJ;rw[h];exact (Xj a Ti).plus y) asB ((fa h).2 g))⟩;have Wf:=Yj;obtain⟨pa,Yw,hc⟩:=Yj 0 a rfl;simp only[Nat.zero_mul,Addr.add_zero']at hc;subst Yw;simp only[Zm,R7]at YC;have kb:=LG (a.ty p act).2 w;have ks:=fun (h0:(a.ty p act).1=0)=>dk op lw lh ll hd nm eh el (some pa) (a :: l).length cap (a.ty p act).2 w (fun h1 h2=>by
   have hb2:=S6 h1;have UT:=wa h0 hb2.1 hb2.2;by_cases h10:op=10
   ·have he2:0≤el∧el≤eh∧eh<128:=by
     subst h10;unfold Sw at VW;split at VW <;> simp only[Zc,decide_eq_true_eq,beq_iff_eq]at VW <;> omega
    rw[QH (x:=1+eh) asB asB,QH asB asB];omega
   ·have he2:eh=0∧el=0:=by
     unfold Sw at VW;split at VW
     ·rename_i hs;exact absurd hs (by unfold Vs;simp[h10])
     ·simp only[Zc,decide_eq_true_eq,beq_iff_eq]at VW;exact VW
    rw[he2.1,he2.2,QH (x:=1+0) asB asB,QH asB asB];rfl)
  obtain⟨⟨R1,⟨tw,tt,tf⟩⟩,hRa⟩:∃r,a.ty p act=r:=⟨_,rfl⟩;rw[hRa]at ZL YC wa fa ffa kb ks;simp only at YC wa fa ffa kb ks;have hN:1≤(a :: l).length:=Nat.succ_pos _;cases l with
  | nil =>
   simp only[List.map_nil]at YC;have W8:¬(op=14∨op=15):=by
    rintro (h|h) <;> (subst h;simp[WD]at hnum)
   refine yH p act op lw lh ll hd nm eh el pa 1 cap a.op a.lit.w a.lit.h a.lit.l a.head a.name a.hi a.lo a.p a.args.length a.cap 0 0 0 0 ⟨#[]⟩ ⟨#[]⟩ 0 0 none 0 0 R1 tw tt tf 0 0 false false 0 RE rw rt rf w hN hc ZL ?_ ?_ ?_ ?_
   ·intro h
    rw[if_pos h]at YC;exact Ig YC
   ·intro h _
    rw[if_neg asN,if_neg W8]at YC;have hk:=ks h;rw[←YC]at hk;exact hk
   ·intro _ h;exact absurd rfl h
   ·intro _ h;exact absurd rfl h
  | cons b l' =>
   simp only[Zm]at YC;have hmb:b∈a :: b :: l':=asD;have heb:=YW Ex.wt (a :: b :: l') b hmb;have kbb:Kp Zx w 115 #[.agg #[.slice p.headers.p p.headers.l.length p.headers.cap,.slice p.metas.p p.metas.l.length p.metas.cap,.slice p.states.p p.states.l.length p.states.cap,.slice p.actions.p p.actions.l.length p.actions.cap,.slice p.tables.p p.tables.l.length p.tables.cap,.slice p.control.p p.control.l.length p.control.cap,.slice p.emit.p p.emit.l.length p.emit.cap],.int .i64 act,b.val] (VD (b.ty p act)):=Kp.of (fun W2 XJ=>ih b hmb n W2 (Xw b hmb) atw (by obtain⟨y,h⟩:=XJ;rw[h];exact (Xj b hmb).plus y) asB);have wb:=Ex.ty_wide p hW act b n (Xw b hmb);have fb:=Ex.ty_fine p act b;have ffb:(b.ty p act).1=0→(b.ty p act).2.fr=true→Nf w (a :: b :: l') 1 b.free:=fun h g=>⟨b,rfl,fun k=>Kp.of (fun W2 XJ=>FM k b W2 (by obtain⟨y,h⟩:=XJ;rw[h];exact (Xj b hmb).plus y) asB ((fb h).2 g))⟩;obtain⟨pb,Xx,Tw⟩:=Yj 1 b rfl;obtain rfl:=Option.some.inj Xx;simp only[Nat.one_mul]at Tw;obtain⟨⟨R2,⟨uw,ut,uf⟩⟩,hRb⟩:∃r,b.ty p act=r:=⟨_,rfl⟩;rw[hRb]at kbb YC wb fb ffb;simp only at YC wb fb ffb;have SF:(a :: b :: l').length≠1:=asD;refine yH p act op lw lh ll hd nm eh el pa (a :: b :: l').length cap a.op a.lit.w a.lit.h a.lit.l a.head a.name a.hi a.lo a.p a.args.length a.cap b.op b.lit.w b.lit.h b.lit.l b.head b.name b.hi b.lo b.p b.args.length b.cap R1 tw tt tf R2 uw ut uf (Yz ⟨tw,tt,tf⟩) RE rw rt rf w hN hc ZL ?_ ?_ ?_ ?_
   ·intro h
    rw[if_pos h]at YC;exact Ig YC
   ·intro _ h;exact absurd h SF
   ·intro h _ W8
    rw[if_neg asN,if_pos W8]at YC;refine⟨kb,fun hB=>?_,fun hB=>?_⟩
    ·rw[if_pos hB]at YC
     exact Ig YC
    ·rw[if_neg (by simpa using hB)]at YC
     exact aaz YC
   ·intro h _ W8
    rw[if_neg asN,if_neg W8]at YC;refine⟨asD,Tw,kbb,fun hQ=>?_,fun hQ=>?_⟩
    ·rw[if_pos hQ]at YC
     exact Ig YC
    ·rw[if_neg (by simpa using hQ)]at YC
     rw[YC];exact dh op lw lh ll hd nm eh el (some pa) (a :: b :: l').length cap (a :: b :: l') rfl a.free b.free ⟨tw,tt,tf⟩ ⟨uw,ut,uf⟩ w Wf (ffa h) (ffb hQ) (fun h1 h2=>by
      have e1:=S6 h1;have e2:=S6 h2;have w1:=wa h e1.1 e1.2;have w2:=wb hQ e2.1 e2.2;show wrap64 (tw+uw)=tw+uw
      have w3:1≤tw∧tw≤128:=w1;have w4:1≤uw∧uw≤128:=w2;exact QH asB asB)):P:=h
def uX(h:P:=by
 go_wp2_with (first|(go_at_call 104;with_reducible refine (q0c.out _).mono ?_;rintro r w' ⟨rfl,x,rfl⟩)|(go_at_call 109;with_reducible refine (q1c.out _).mono ?_;rintro r w' ⟨rfl,x,rfl⟩));exact AR):P:=h
def uY(h:P:=by
 obtain⟨n0,h0⟩:=ZB l0.length;obtain⟨n1,h1⟩:=ZB l1.length;obtain⟨n2,h2⟩:=ZB l2.length;obtain⟨n3,h3⟩:=ZB l3.length;obtain⟨n4,h4⟩:=ZB l4.length;obtain⟨n5,h5⟩:=ZB l5.length;obtain⟨n6,h6⟩:=ZB l6.length;exact AU):P:=h
def aks(h:P:=by
 rw[hM]at kch kt ⊢;simp only[Rp,h0,h1,h2,h3,h4,h5,h6]at kt ⊢;clear hM h0 h1 h2 h3 h4 h5 h6;have kch':=Zf kch;have kt':=Zf kt;have ZO:=Zf KS;clear kch kt KS;go_enter func16,ntmps16;go_wp2_with fail;obtain⟨X,hX,⟨zX,ZE⟩,YB,ca,cb,cc,cd,ce,fd,fe⟩:=nF V _ _ _ _ _ 30 3 45 75 75;rw[hX];refine (kch'.out X ⟨zX,ZE⟩ _ (Nj V (V.heap.size+1+1+1) (V.heap.size+1+1+1+1) t) ?_).mono ?_
 ·rintro W ⟨z,rfl⟩
  have hG:∀w,(callFunc 27 #[.pointer (some ⟨V.heap.size,0,none⟩),.pointer (some ⟨V.heap.size+1,0,none⟩),.pointer (some ⟨V.heap.size+1+1,0,none⟩),.pointer (some ⟨V.heap.size+1+1+1+1,0,none⟩)]).run Zx w=.ok (.enter 27 #[.pointer (some ⟨V.heap.size,0,none⟩),.pointer (some ⟨V.heap.size+1,0,none⟩),.pointer (some ⟨V.heap.size+1+1,0,none⟩),.pointer (some ⟨V.heap.size+1+1+1+1,0,none⟩)]) w:=by
   intro w;simp[go_sem]
  have hxs:=XZ X z;refine (xu (plus X z) _ _ hG R (Nj V (V.heap.size+1+1+1) (V.heap.size+1+1+1+1) t) ?_).mono ?_
  ·obtain⟨W1,hA⟩:=ZB ((plus X z).alloc (.cells #[.int .i64 0] 33))
   have m0:W1.cell? ⟨(plus X z).heap.size,0,none⟩=some (.int .i64 0):=by rw[←hA];exact YI _ _ _ _ 0 rfl
   have mf:∀o,W1.frozen? ⟨(plus X z).heap.size,o,none⟩=false:=fun o=>by rw[←hA];exact Ra _ _ _ _ o rfl
   have ZC:(plus X z).heap.size<W1.heap.size:=by rw[←hA];simp
   obtain⟨YH,Y8⟩:∃YH,W1=plus X YH:=by rw[←hA];exact MS _
   rw[hA];clear hA;obtain⟨n,hn⟩:=ZB ((plus X z).heap.size);rw[hn]at m0 mf ZC hxs ⊢;have hk:Calls Zx 28 #[.agg #[.slice p0 n0 Ym,.slice p1 n1 ZL,.slice p2 n2 ZT,.slice p3 n3 Ys,.slice p4 n4 YQ,.slice p5 n5 WF,.slice p6 n6 Vz,.int .i64 act],.agg #[.int .u8 op,.int .i64 lw,.int .u64 lh,.int .u64 ll,.string hd,.string nm,.int .i64 eh,.int .i64 el,.slice ep M ec]] W1 fun e w'=>e=Yl R t.v∧∃x,w'=plus W1 x:=by
    rw[Y8,ZE,ZD];exact kt'.out _
   refine (gY _ _ _ _ _ _ _ _ _ _ _ _ _ _ _ _ _ _ _ _ _ _ _ _ _ _ _ _ _ _ _ _ _ _ W1 V.heap.size (V.heap.size+1) (V.heap.size+1+1) (V.heap.size+1+1+1+1) hk (by rw[Y8];exact ca 0 _ rfl YH) (by rw[Y8];exact ca 1 _ rfl YH) (by rw[Y8];exact ca 2 _ rfl YH) (by rw[Y8];exact ca 3 _ rfl YH) (by rw[Y8];exact ca 4 _ rfl YH) (by rw[Y8];exact ca 5 _ rfl YH) (by rw[Y8];exact ca 6 _ rfl YH) (by rw[Y8];exact cb 0 _ rfl YH) (by rw[Y8];exact cc 0 _ rfl YH) (by rw[Y8];exact cc 1 _ rfl YH) (by rw[Y8];exact cc 2 _ rfl YH) (by rw[Y8];exact cc 3 _ rfl YH) (by rw[Y8];exact cc 4 _ rfl YH) (by rw[Y8];exact cc 5 _ rfl YH) (by rw[Y8];exact cc 6 _ rfl YH) (by rw[Y8];exact cc 7 _ rfl YH) (by rw[Y8];exact cc 8 _ rfl YH) (by rw[Y8];exact ce 0 _ rfl YH) (by rw[Y8];exact ce 1 _ rfl YH) (by rw[Y8];exact ce 2 _ rfl YH) (fun o=>by rw[Y8];exact fe YH o) R t rfl).mono ?_;rintro e w' ⟨rfl,x,rfl⟩;have hrb:RB V (V.heap.size+1+1+1) (plus W1 x):=by rw[Y8,ZD];exact VB ⟨zX,ZE⟩ (by omega) cd fd _
   refine⟨rfl,gZ hrb asB asB (by rw[Y8,ZD];exact ce 0 _ rfl _) (by rw[Y8,ZD];exact ce 1 _ rfl _) (by rw[Y8,ZD];exact ce 2 _ rfl _) ZO.out,?_,fun o=>?_⟩
   ·have YN:∀i k,(⟨V.heap.size+1+1+1+1,i,none⟩:Addr)≠⟨n,k,none⟩:=fun i k c=>by
     have:V.heap.size+1+1+1+1=n:=by injection c
     omega
    have m1:(plus W1 x).cell? ⟨n,0,none⟩=some (.int .i64 0):=(TI W1 x n 0 ZC).trans m0;split
    ·rw[ZA (h:=YN 2 0),ZA (h:=YN 1 0),ZA (h:=YN 0 0)];exact m1
    ·exact m1
   ·have m1:(plus W1 x).frozen? ⟨n,o,none⟩=false:=(Od W1 x n o ZC).trans (mf o)
    split
    ·rw[World.frozen?_setCell,World.frozen?_setCell,World.frozen?_setCell];exact m1
    ·exact m1
  ·rintro e w' ⟨rfl,U,hU,rfl⟩
   exact⟨rfl,hU.setO asB asB asB 0 _⟩
 rintro r w' ⟨rfl,hT⟩;clear kch' kt' ZO ca cb cc cd ce fd fe hX ZE YB;have r0:=hT.rb.r0;have r1:=hT.rb.r1;have r2:=hT.rb.r2;have rf:=hT.rb.rf;have q0:=hT.q0;have q1:=hT.q1;have q2:=hT.q2;have Vu:=Zf hT.rb;clear hT;obtain⟨tw,tt,tf⟩:=t;go_wp2;obtain⟨Z,hZ,g0,g1,g2,hV⟩:=Vu.out.set ⟨tw,tt,tf⟩;simp only at hZ;rw[hZ];clear hZ;exact bodyPost_ret (v:=.tuple #[.agg #[.int .i64 tw,.bool tt,.bool tf],.int .i64 R]) (by simp[results,Tryz.results16,go_sem,g0,g1,g2]) rfl ⟨rfl,hV⟩):P:=h
def akt(h:P:=by
 rw[h0]at C0;rw[h1]at C1;rw[h2]at C2;rw[h3]at C3 hkl;rw[h4]at C4;rw[h5]at C5;rw[h6]at C6;rw[h0,h1,h2,h3,h4,h5,h6]at kA;clear h0 h1 h2 h3 h4 h5 h6;obtain⟨xn,⟨xp,xc,xl⟩⟩:=x;obtain⟨an,⟨fp,fc,fl⟩,abody⟩:=a;simp only at Pd WU hl hs hpar;simp only[Cl.cells,Sl.v];have A1:=hca.cs 0 _ rfl;simp only[Sl.v]at A1;have SG:=HD xl fl;have V9:=fun (j:Nat) (x:Lt) (v:Fd) (h1:xl[j]?=some x) (h2:fl[j]?=some v)=>HC xl fl j x v h1 h2;obtain⟨n,hnn⟩:=ZB xl.length;obtain⟨fn,hfn⟩:=ZB fl.length;rw[hnn]at hs hl SG;rw[hfn]at hl A1;rw[hnn];have ZO:=Zf hs;have Yt:=Zf hl;have TA:=Zf hnn;have hfn':=Zf hfn;have hargs':=Zf Pd;have hlit':=Zf WU;have hpar':=Zf hpar;have hat':=Zf V9;have hsl':=Zf SG;have kA':=Zf kA;clear hs hl hnn hfn Pd WU hpar V9 SG kA hca;go_enter func38,ntmps38;go_upto_region 1 with (fail)
 obtain⟨X,Y0,hX,⟨zX,ZE⟩,ca⟩:=YO V _ 56;rw[hX];have b0:=ca 0 _ rfl;have b1:=ca 1 _ rfl;replace C0:∀y,(plus X y).cell? ⟨cb,0,none⟩=some (.slice p0 n0 Ym):=fun y=>by rw[ZE,ZD];exact ZS C0 _
 replace C1:∀y,(plus X y).cell? ⟨cb,1,none⟩=some (.slice p1 n1 ZL):=fun y=>by rw[ZE,ZD];exact ZS C1 _
 replace C2:∀y,(plus X y).cell? ⟨cb,2,none⟩=some (.slice p2 n2 ZT):=fun y=>atS;replace C3:∀y,(plus X y).cell? ⟨cb,3,none⟩=some (.slice (some pa) n3 Ys):=fun y=>by rw[ZE,ZD];exact ZS C3 _
 replace C4:∀y,(plus X y).cell? ⟨cb,4,none⟩=some (.slice p4 n4 YQ):=fun y=>atZ;replace C5:∀y,(plus X y).cell? ⟨cb,5,none⟩=some (.slice p5 n5 WF):=fun y=>by rw[ZE,ZD];exact ZS C5 _
 replace C6:∀y,(plus X y).cell? ⟨cb,6,none⟩=some (.slice p6 n6 Vz):=fun y=>by rw[ZE,ZD];exact ZS C6 _
 replace A1:∀y,(plus X y).cell? ⟨(pa.add (k*3)).block,(pa.add (k*3)).off+1,none⟩=some (.slice fp fn fc):=fun y=>by rw[ZE,ZD];exact ZS A1 _
 have q1:=Zf (ZK ZE kA'.out);have hz:=Zf ZE;clear hX ca ZE kA';have hneg0:¬((k:Int)<0):=asB;have Ua:(k:Int)<(n3:Int):=asB;refine Wz asC asC ?_;repeat (go_big_quiet_step (first|(with_reducible exact q1.out _)))
 refine wpQuiet_nil ?_;rintro _ ⟨y7,rfl⟩;clear C0 C1 C2 C3 C4 C5 C6 A1 q1;go_wp2;go_loopw [5,6,25] (fun _ _ iv wr=>∃k:Nat,k≤n∧iv=.int .i64 (k:Int)∧(∃z,wr=plus V z)∧∀j y,j<k→(Ts xl fl)[j]?=some y→y=0) (fun _ _ iv _=>n-(intOf iv).toNat)
 case atStart=>exact⟨0,Zw _,rfl,⟨_,atB⟩,fun j y h=>absurd h (Nat.not_lt_zero j)⟩
 case round =>
  obtain⟨i,hi,rfl,⟨z,hzr⟩,hJ⟩:=hrel;by_cases ZC:i<n
  ·obtain⟨x,hx⟩:=Yq xl i atR
   have hlk:=Yt.out;obtain⟨v,hv⟩:=Yq fl i (by rw[hfn'.out];omega);obtain⟨pb,rfl,YZ⟩:=hargs'.out i x hx;obtain⟨ka,rfl,hck⟩:=hpar'.out i v hv;have Vw:=hat'.out i x v hx hv;have l1:=Zf (fun W=>Es x v.w W (hlit'.out x (Zo hx)));have Yx:Yg wr (pb.add (i*3)) x.cells:=by rw[hzr];exact YZ.plus z
   have d0:=Yx.c0 _ rfl;have d1:=Yx.cs 0 _ rfl;have d2:=Yx.cs 1 _ rfl;have a6:=Zf (Y7 i n ZC ZO.out);have hkv:∀y,(plus wr y).cell? ⟨(ka.add (i*2)).block,(ka.add (i*2)).off+1,none⟩=some (.int .i64 v.w):=fun y=>by
    have q:=hck.cs 0 _ rfl;rw[hzr,ZD];exact ZS q _
   have RJ:=Zf hzr;have Tv:=Zf hJ;have Vf:=Zf Vw;clear Yx YZ hck hx hv hzr hJ Vw;go_upto_region 5 with (fail)
   obtain⟨X2,Y2,XP,⟨Xt,ZG⟩,cc⟩:=YO wr _ 42;rw[XP];have s0:=cc 0 _ rfl;have s1:=cc 1 _ rfl;have s2:=cc 2 _ rfl;have hv2:∀y,(plus X2 y).cell? ⟨(ka.add (i*2)).block,(ka.add (i*2)).off+1,none⟩=some (.int .i64 v.w):=fun y=>by rw[ZG,ZD];exact hkv _
   have hzX2:=Zf ZG;clear XP cc ZG hkv d0 d1 d2;have Sg:¬((i:Int)<0):=asB;have Ub:(i:Int)<(fn:Int):=asB;have QU:=Zf (show ∀x1,∃z,plus X2 x1=plus V z from fun x1=>by rw[hzX2.out,RJ.out,ZD,ZD];exact⟨_,rfl⟩);obtain⟨v1,v2,v3⟩:=x;obtain⟨vn,vw⟩:=v;simp only[Lt.cells]at l1;simp only at hv2 Vf;simp only[Lt.cells,List.getElem?_toArray,List.getElem?_cons_succ,List.getElem?_cons_zero]at s0 s1 s2;obtain⟨r1,hr1⟩:=ZB (Wg ⟨v1,v2,v3⟩ vw);simp only[hr1]at l1 Vf;clear hr1;refine Wj 6 asC asC ?_;open Z renaming afg→NM in exact Ms
  ·obtain rfl:i=n:=by omega
   have VW:V7 (Ts xl fl)=0:=P0 _ fun j y hj=>hJ j y (by have:=(Zi.1 hj).1;have:=hsl'.out;omega) hj;exact tZ):P:=h
def Dm(h:P:=by
 rw[hW];have ca0:=ca 0 _ rfl;have ca1:=ca 1 _ rfl;have ca2:=ca 2 _ rfl;have ca3:=ca 3 _ rfl;have ca4:=ca 4 _ rfl;have ca5:=ca 5 _ rfl;have ca6:=ca 6 _ rfl;exact GM):P:=h
def aku(h:P:=by
 have ZG:=Zf hz;clear hW ca hz;refine (nd _).mono ?_;rintro r w' ⟨m1,m2,m3,rfl,⟨x,hx⟩,hm⟩;rw[ZD]at hx;obtain⟨x0,rfl⟩:∃x0,w'=plus W0 x0:=⟨_,hx⟩;clear hx;have hm:=Zf hm;have cx0:=fun a=>YG (ca0 x0) a;have cx1:=fun a=>YG (ca1 x0) a;have cx2:=fun a=>YG (ca2 x0) a;have cx3:=fun a=>YG (ca3 x0) a;have cx4:=fun a=>YG (ca4 x0) a;have cx5:=fun a=>YG (ca5 x0) a;have cx6:=fun a=>YG (ca6 x0) a;go_wp2_with fail;obtain⟨W,y1,hW,⟨YH,Ue⟩,cb⟩:=YO (plus W0 x0) _ 117;rw[hW];have cb0:=cb 0 _ rfl;have cb1:=cb 1 _ rfl;have cb2:=cb 2 _ rfl;have cp0:=fun y=>ZS (Tu Ue (ca0 x0)) y;have cp1:=fun y=>ZS (Tu Ue (ca1 x0)) y;have cp2:=fun y=>ZS (Tu Ue (ca2 x0)) y;have cp3:=fun y=>ZS (Tu Ue (ca3 x0)) y;have cp4:=fun y=>ZS (Tu Ue (ca4 x0)) y;have cp5:=fun y=>ZS (Tu Ue (ca5 x0)) y;have cp6:=fun y=>ZS (Tu Ue (ca6 x0)) y;obtain⟨zz,hzz⟩:∃zz,W=plus V zz:=⟨_,by rw[Ue,ZG.out,ZD,ZD]⟩;have TQ:Va W m1 m2 m3:=Ue▸hm.out.plus YH;exact OD):P:=h
def akv(h:P:=by
 have ca7:=ca 7 _ rfl;have ca8:=ca 8 _ rfl;have cb0:=cb 0 _ rfl;have cc0:=cc 0 _ rfl;have cc1:=cc 1 _ rfl;have cc2:=cc 2 _ rfl;have cc3:=cc 3 _ rfl;have cc4:=cc 4 _ rfl;have cc5:=cc 5 _ rfl;have q0:=Zf (ZK hz h0.out);have cbW:=cb0 ⟨#[],W.drawn⟩;rw[Yk]at cbW;have q1:=Zf (hE.out W z _ hz cbW).pure;have ZN:=Zf hz;clear hW hz ca cb cc cbW h0 hE;exact BJ):P:=h
def akw(h:P:=by
 have ca7:=ca 7 _ rfl;have ca8:=ca 8 _ rfl;exact KV):P:=h
def Dn(h:P:=by
 have Uf:=Zf (show ∃z,X2=plus V z by rw[ZG,hz.out,ZD,ZD];exact⟨_,rfl⟩);have hzX2:=Zf ZG;clear XP cc ZG hz;go_wp2_with fail;exact GN):P:=h
def akx(h:P:=by
 refine (Vq X2 9 Y2).mono ?_;rintro r w' ⟨rfl,x2,rfl⟩;rw[ZD];obtain⟨Y3,hY3⟩:=ZB ((⟨ZH.blocks Y2++ZH.blocks x2,ZH.draws x2⟩:ZH):ZH);rw[hY3];clear hY3;have Rd:=Zf (show ∃z,plus X2 Y3=plus X z from⟨_,by rw[hzX2.out,ZD,ZD]⟩);by_cases r0:R=0
 ·subst r0
  go_wp2_with fail;refine (qkg.out _ Rd.out).mono ?_;rintro r w' ⟨rfl,x5,rfl⟩;rw[show Yl 0 (.tuple #[])=.returned (.tuple #[]) from rfl];go_wp2;go_end0;exact⟨rfl,auJ⟩
 ·go_wp2_with fail
  refine (qkg.out _ Rd.out).mono ?_;rintro r w' ⟨rfl,x5,rfl⟩;rw[show Yl R (.tuple #[])=YJ R by rw[Yl,if_neg r0]];go_wp2;exact⟨rfl,(VH r0).symm,auJ⟩):P:=h
def aky(h:P:=by
 refine (UD X2 9 Y2).mono ?_;rintro r w' ⟨rfl,x2,rfl⟩;exact vu):P:=h
def akz(h:P:=by
 refine (Vq X2 9 Y2).mono ?_;rintro r w' ⟨rfl,x2,rfl⟩;rw[ZD];go_wp2;go_end0;obtain⟨zz,hzz⟩:=Uf.out;exact⟨rfl,by rw[hzz,ZD];exact⟨_,rfl⟩⟩):P:=h
def Dq(h:P:=by
 clear hK K UA;refine wpAnyH_ready (rs:=[11]) asC asD ?_;refine Za rfl (fun K hK=>?_) AllReadyH.nil;go_simp;refine (qt.out U0 hp).mono ?_;exact GP):P:=h
def akA(h:P:=by
 rintro r w' ⟨rfl,x12,hx12⟩;have hp12:∃z,w'=plus U z:=by rw[hx12];exact Uj hp x12
 refine hK.out _ _ (by rw[hx12];exact hHeld11.plus x12) (fun Bh=>?_);clear hK K hx12;obtain⟨U12,hU12⟩:=ZB w';rw[hU12]at Bh hp12 ⊢;clear hU12;open Z renaming alF→Jm in exact I0):P:=h
def akB(h:P:=by
 rintro r w' ⟨rfl,x5,hx5⟩;have hp5:∃z,w'=plus U z:=by rw[hx5];exact Uj hp x5
 refine hK.out _ _ (by rw[hx5];exact hHeld4.plus x5) (fun hHeld5=>?_);clear hK K hx5;obtain⟨U5,hU5⟩:=ZB w';rw[hU5]at hHeld5 hp5 ⊢;clear hU5;open Z renaming alG→Jm in exact I0):P:=h
def akC(h:P:=by
 rintro r w' ⟨rfl,x2,TS⟩;exact⟨rfl,PA.out _ (by rw[TS];exact Uj hp x2)⟩):P:=h
def uZ(h:P:=by
 have X7:=YR ZG Vc.out;have e0:=fun y=>(X7.plus y).c0 _ rfl;have e1:=fun y=>(X7.plus y).cs 0 _ rfl;have qh1:=Zf (ZK ZG YA.out);have ZY:=Zf ZG;clear hW ZG cp ci YA Yo Vc Yv X7;have hv:=Ws.out;clear Ws;exact AV):P:=h
def akD(h:P:=by
 go_upto_region 18 with (fail)
 open Z renaming arN→TD in exact TG):P:=h
def akE(h:P:=by
 go_upto_region 15 with (fail)
 open Z renaming arM→TD in exact TG):P:=h
def tg(h:P:=by
 refine callsD_of_wpS func32 rfl fun c₀ cs hu=>?_;apply wpS_seq;apply wpS_region;simp[wpOpsS,go_sem,recoverD,hu,ntmps32,Exit.thenS,hta];refine wpS_of_wp ?_;rw[kE];go_wp2;simp only[bodyPostS];exact AW):P:=h
def akF(h:P:=by
 cases c₀;simp only at hu;subst hu;exact vG):P:=h
def Dr(h:P:=by
 rw[hW];have p0:=cp 0 _ rfl;have p1:=cp 1 _ rfl;have p2:=cp 2 _ rfl;have p3:=cp 3 _ rfl;have p4:=cp 4 _ rfl;have p5:=cp 5 _ rfl;have p6:=cp 6 _ rfl;exact GS):P:=h
def akG(h:P:=by
 have t0:=ct 0 _ rfl;have t1:=ct 1 _ rfl;have t2:=ct 2 _ rfl;have t3:=ct 3 _ rfl;have t4:=ct 4 _ rfl;have qk1:=Zf (ZK ZG ZL'.out);have ZY:=Zf ZG;clear hW ZG cp ct ZL';go_wp2_with (first|(go_at_call 162;with_reducible refine (qk1.out _).mono ?_;rintro r w' ⟨rfl,x,rfl⟩));exact Uk):P:=h
def akH(h:P:=by
 have s0:=cs 0 _ rfl;have s4:=cs 4 _ rfl;have s5:=cs 5 _ rfl;have s8:=cs 8 _ rfl;have q1:=Zf (ZK ZG ZL'.out);have q2:=Zf (ZK ZG ZT'.out);have q3:=Zf (ZK ZG Ys'.out);have q4:=Zf (ZK ZG YQ'.out);have ZN:=Zf ZG;clear hW ZG cp cs ZL' ZT' Ys' YQ';by_cases o2:op=2
 ·subst o2
  have VQ:YP p act (.mk 2 ⟨lw,lh,ll⟩ hd nm eh el ep cap args)=(X5 p (YF p.headers.l hd) nm !=-1):=by simp[YP,Ex.op,Ex.head,Ex.name]
  have TN:=JF g2.out;obtain⟨F,hFv⟩:=ZB (X5 p (YF p.headers.l hd) nm);rw[hFv]at TN VQ q2;obtain⟨H,hHv⟩:=ZB (YF p.headers.l hd);rw[hHv]at q1 q2;clear hFv hHv q3 q4 g1 g2 g3 g4;rcases TN with⟨hF,hN⟩|⟨hF,hN⟩
  ·skip
   have h2:=Zf (show false=R by rw[←ZR.out,←Th.out,VQ,hN,Bool.false_and]);rw[hF]at q2;clear VQ Th ZR hF hN;open Z renaming aeG→Lf in exact LX
  ·skip
   have h1:args.all (Ex.there (YP p act))=R:=by rw[←ZR.out,←Th.out,VQ,hN,Bool.true_and]
   have YM:=Zf (show (args.drop 0).all (Ex.there (YP p act))=R from h1);clear h1 VQ Th ZR hN;open Z renaming aeH→Lf in exact LX
 by_cases o3:op=3
 ·subst o3
  have VQ:YP p act (.mk 3 ⟨lw,lh,ll⟩ hd nm eh el ep cap args)=(Xv p.metas.l nm !=-1):=by simp[YP,Ex.op,Ex.name]
  have TN:=JF g3.out;have TN:(Xv p.metas.l nm=-1∧(Xv p.metas.l nm !=-1)=false)∨(¬Xv p.metas.l nm<0∧(Xv p.metas.l nm !=-1)=true):=TN;obtain⟨F,hFv⟩:=ZB (Xv p.metas.l nm);rw[hFv]at TN VQ q3;clear hFv q1 q2 q4 g1 g2 g3 g4;rcases TN with⟨hF,hN⟩|⟨hF,hN⟩
  ·skip
   have h2:=Zf (show false=R by rw[←ZR.out,←Th.out,VQ,hN,Bool.false_and]);rw[hF]at q3;clear VQ Th ZR hF hN;go_wp2_with (first|(go_at_call 118;with_reducible refine (q3.out _).mono ?_;rintro r w' ⟨rfl,x,rfl⟩));exact Hb
  ·open Z renaming afl→Gt in exact EU
 by_cases o4:op=4
 ·subst o4
  have VQ:YP p act (.mk 4 ⟨lw,lh,ll⟩ hd nm eh el ep cap args)=(WN p act nm !=-1):=by simp[YP,Ex.op,Ex.name]
  have TN:=JF g4.out;obtain⟨F,hFv⟩:=ZB (WN p act nm);rw[hFv]at TN VQ q4;clear hFv q1 q2 q3 g1 g2 g3 g4;rcases TN with⟨hF,hN⟩|⟨hF,hN⟩
  ·skip
   have h2:=Zf (show false=R by rw[←ZR.out,←Th.out,VQ,hN,Bool.false_and]);rw[hF]at q4;clear VQ Th ZR hF hN;go_wp2_with (first|(go_at_call 177;with_reducible refine (q4.out _).mono ?_;rintro r w' ⟨rfl,x,rfl⟩));exact Hb
  ·open Z renaming afm→Gt in exact EU
 by_cases o6:op=6
 ·subst o6
  have VQ:YP p act (.mk 6 ⟨lw,lh,ll⟩ hd nm eh el ep cap args)=(YF p.headers.l hd !=-1):=by simp[YP,Ex.op,Ex.head]
  have TN:=JF g1.out;have TN:(YF p.headers.l hd=-1∧(YF p.headers.l hd !=-1)=false)∨(¬YF p.headers.l hd<0∧(YF p.headers.l hd !=-1)=true):=TN;obtain⟨F,hFv⟩:=ZB (YF p.headers.l hd);rw[hFv]at TN VQ q1;clear hFv q2 q3 q4 g1 g2 g3 g4;rcases TN with⟨hF,hN⟩|⟨hF,hN⟩
  ·skip
   have h2:=Zf (show false=R by rw[←ZR.out,←Th.out,VQ,hN,Bool.false_and]);rw[hF]at q1;clear VQ Th ZR hF hN;open Z renaming Hb→GV in exact Dt
  ·open Z renaming afn→Gt in exact EU
 have VQ:YP p act (.mk op ⟨lw,lh,ll⟩ hd nm eh el ep cap args)=true:=by simp[YP,Ex.op,o2,o3,o4,o6]
 have n2:(op==2)=false:=by simpa using o2
 have n3:(op==3)=false:=ato;have n4:(op==4)=false:=by simpa using o4
 have n6:(op==6)=false:=atp;clear q1 q2 q3 q4 g1 g2 g3 g4 o2 o3 o4 o6;have h1:args.all (Ex.there (YP p act))=R:=by rw[←ZR.out,←Th.out,VQ,Bool.true_and]
 have YM:=Zf (show (args.drop 0).all (Ex.there (YP p act))=R from h1);clear h1 VQ Th ZR;exact sF):P:=h
def akI(h:P:=by
 have s0:=cs 0 _ rfl;have s1:=cs 1 _ rfl;have s2:=cs 2 _ rfl;have s3:=cs 3 _ rfl;have s4:=cs 4 _ rfl;have s5:=cs 5 _ rfl;have s6:=cs 6 _ rfl;have s7:=cs 7 _ rfl;have s8:=cs 8 _ rfl;have s9:=cs 9 _ rfl;have s10:=cs 10 _ rfl;have s11:=cs 11 _ rfl;have s12:=cs 12 _ rfl;have s13:=cs 13 _ rfl;have qk1:=Zf (ZK ZG ZL'.out);have qk2:=Zf (ZK ZG ZT'.out);have qk3:=Zf (ZK ZG Ys'.out);exact BM):P:=h
def th(h:P:=by
 have c1_7:=cb1 7 _ rfl;have c1_8:=cb1 8 _ rfl;have c1_9:=cb1 9 _ rfl;have c1_10:=cb1 10 _ rfl;have c1_11:=cb1 11 _ rfl;have c1_12:=cb1 12 _ rfl;have c1_13:=cb1 13 _ rfl;exact AX):P:=h
def Kb(h:P:=by
 clear hR;have h0:=Zf h0;have h1:=Zf h1;have h2:=Zf h2;have h3:=Zf h3;have h4:=Zf h4;exact Lr):P:=h
def akJ(h:P:=by
 clear h5 h6;go_enter func29,ntmps29;go_wp2_with fail;open Z renaming anQ→OD in exact O7):P:=h
def akK(h:P:=by
 have h5:=Zf h5;clear h6;go_enter func29,ntmps29;go_wp2_with fail;open Z renaming anR→OD in exact O7):P:=h
def akL(h:P:=by
 open Z renaming apQ→N5 in exact MH):P:=h
def akM(h:P:=by
 open Z renaming ajY→Lo in exact L9):P:=h
def akN(h:P:=by
 have h5:=Zf h5;have h6:=Zf h6;go_enter func29,ntmps29;go_wp2_with fail;open Z renaming anS→OD in exact O7):P:=h
def tj(h:P:=by
 obtain⟨X,yX,eX,⟨zX,ZE⟩,ct⟩:=YO (plus W x) _ 75;rw[eX];have hX:X=plus W _:=ZE.trans (ZD _ _ _);have t0:=ct 0 (some (.int .i64 tw)) rfl;have t1:=ct 1 (some (.bool tt)) rfl;have t2:=ct 2 (some (.bool tf)) rfl;exact AY):P:=h
def akO(h:P:=by
 replace b0:=ZM hX b0;replace b1:=ZM hX b1;replace b2:=ZM hX b2;replace b3:=ZM hX b3;replace b4:=ZM hX b4;replace b5:=ZM hX b5;replace b6:=ZM hX b6;replace b7:=ZM hX b7;replace b8:=ZM hX b8;replace b9:=ZM hX b9;replace b10:=ZM hX b10;replace b11:=ZM hX b11;replace b12:=ZM hX b12;replace b13:=ZM hX b13;have hX':=Zf hX;replace ZG:=Zf (show ∃z,X=plus V z by obtain⟨z,h⟩:=ZG.out;rw[hX,h,ZD];exact⟨_,rfl⟩);clear eX ZE ct hX;exact BH):P:=h
def akP(h:P:=by
 replace c0:=ZM hX c0;replace c1:=ZM hX c1;replace c2:=ZM hX c2;replace c3:=ZM hX c3;replace c4:=ZM hX c4;replace c5:=ZM hX c5;replace c6:=ZM hX c6;replace c7:=ZM hX c7;replace c8:=ZM hX c8;have hX':=Zf hX;have ZG:=Zf (show ∃z,X=plus V z by rw[hX,hz.out,ZD];exact⟨_,rfl⟩);clear eX ZE ct hX hz;exact zD):P:=h
def tk(h:P:=by
 replace d0:=ZM hzc d0;replace d1:=ZM hzc d1;replace d2:=ZM hzc d2;replace d3:=ZM hzc d3;replace d4:=ZM hzc d4;replace d5:=ZM hzc d5;replace d6:=ZM hzc d6;replace d7:=ZM hzc d7;replace d8:=ZM hzc d8;exact AZ):P:=h
def akQ(h:P:=by
 have hcu2:∀{U:World},(∃z,U=plus wc z)→∃z,U=plus X z:=fun h=>by obtain⟨z,rfl⟩:=h;exact hcu.out z
 open Z renaming adM→Le in exact LV):P:=h
def akR(h:P:=by
 open Z renaming adO→Le in exact LV):P:=h
def IW(h:P:=by
 have hF:=Zf (show (true)=R by first|exact hR|(rw[←hR];simp[q1,q2,q3]));exact Jj):P:=h
def tq(h:P:=by
 replace hv:=Zf hv;go_upto_region 3 with (fail)
 refine Wz asC asC ?_;repeat (go_big_quiet_step (first|(with_reducible exact q3.out _)))
 exact A0):P:=h
def ts(h:P:=by
 have hv:XS p act 4 lw hd nm=(0,XN (QI p act (WN p act nm))):=by unfold XS;rw[if_neg (by decide),if_neg (by decide),if_neg (by decide),if_pos rfl,if_neg q]
 rw[hv];obtain⟨k,x,i,y,g1,hx,g3,hy⟩:=yz q;exact A2):P:=h
def akS(h:P:=by
 have h2:=FL p w ZF hz act nm;subst g1;rw[g3]at h2 ⊢;have hm:=Zo hx;obtain⟨pa,hp,hc⟩:=ZF.actions.row k x hx;obtain⟨fa,hfp,hc2⟩:=(ZF.actions.kids x hm).params.row i y hy;have hc1:Yg w (pa.add (k*3)) [.string x.name,.slice x.params.p x.params.l.length x.params.cap,.slice x.body.p x.body.l.length x.body.cap]:=hc;have e:QI p (k:Int) (i:Int)=y.w:=by unfold QI;rw[Int.toNat_natCast,hx];exact Rz hy
 rw[e];rw[hfp]at hc1;rw[hp]at h2 hN;unfold Rp;rw[hp];exact jT _ _ _ _ _ _ _ _ _ _ _ _ _ _ _ _ _ _ _ _ _ _ _ _ _ _ _ _ _ _ _ _ _ k i _ _ _ _ _ _ _ w (Zi.1 hx).1 (Zi.1 hy).1 hc1 hc2 h2 hN):P:=h
def akT(h:P:=by
 subst g1;rw[g3]at h2 ⊢;have hm:=Zo hx;have ZC:=(Zi.1 hx).1;obtain⟨pa,hp,hc⟩:=ZF.actions.row k x hx;have hc1:Yg w (pa.add (k*3)) [.string x.name,.slice x.params.p x.params.l.length x.params.cap,.slice x.body.p x.body.l.length x.body.cap]:=hc;have h3:=FP _ w x.params (ZF.actions.kids x hm).params i y hy;have e:QI p (k:Int) (i:Int)=y.w:=by unfold QI;rw[Int.toNat_natCast,hx];exact Rz hy
 rw[e];rw[hp]at h1 h2 ⊢;exact eR _ _ _ _ _ _ _ _ _ _ _ _ _ _ _ _ _ _ _ _ _ _ _ _ _ _ _ _ _ _ _ _ _ _ _ _ _ _ _ _ _ _ _ _ _ (k) (ZC) (hc1) (h1) (h2) (h3)):P:=h
def tu(h:P:=by
 have q0':=Zf q0;have q1':=Zf q1;have q2':=Zf q2;have q3':=Zf q3;have q4':=Zf q4;have q5':=Zf q5;have q6':=Zf q6;have Yi:=Zf hb;have YM:=Zf (fun o:Obj=>UB hJ h0 o);exact A3):P:=h
def akU(h:P:=by
 have hP:∀V,Kq S W V→∀(j:Nat) (v:Value),[.slice p0 s0 c0,.slice p1 s1 c1,.slice p2 s2 c2,.slice p3 s3 c3,.slice p4 s4 c4,.slice p5 s5 c5,.slice p6 s6 c6][j]?=some v→V.cell? ⟨pb,j,none⟩=some v:=fun V h j v hj=>h.cell ⟨pb,j,none⟩ v Xx auK;open Z renaming agT→Ad in exact vM):P:=h
def akV(h:P:=by
 have hP:∀V,Kr S W V→∀(j:Nat) (v:Value),[.slice p0 s0 c0,.slice p1 s1 c1,.slice p2 s2 c2,.slice p3 s3 c3,.slice p4 s4 c4,.slice p5 s5 c5,.slice p6 s6 c6][j]?=some v→V.cell? ⟨pb,j,none⟩=some v:=fun V h j v hj=>h.cell ⟨pb,j,none⟩ v Xx auK;open Z renaming agU→Ad in exact vM):P:=h
def tv(h:P:=by
 obtain⟨c0,c1p,c1n,c1c,c2p,c2n,c2c,ea⟩:=YY.out a;have d0:=hc.c0 _ asI;have d1:=hc.cs 0 _ asI;have d2:=hc.cs 1 _ asI;exact A4):P:=h
def tx(h:P:=by
 have hm:=Zo hx;have ZC:=(Zi.1 hx).1;obtain⟨pa,hp,hc⟩:=ZF.headers.row k x hx;have hc1:Yg w (pa.add (k*2)) [.string x.name,.slice x.fields.p x.fields.l.length x.fields.cap]:=hc;exact A5):P:=h
def akW(h:P:=by
 have h3:=yI w x.fields;exact sG):P:=h
def akX(h:P:=by
 have h3:=FP _ w x.fields (ZF.headers.kids x hm).fields i y hy;have e:TM p (k:Int) (i:Int)=y.w:=auf;rw[e];exact sG):P:=h
def tA(h:P:=by
 have Wc:=Zf hE;have XI:=Zf hB;have ZR:=Zf hR;clear hE hB hR;have h0:=Zf h0;have h1:=Zf h1;have h2:=Zf h2;have h3:=Zf h3;go_enter func173,ntmps173;go_upto_region 1 with (fail)
 exact A6):P:=h
def akY(h:P:=by
 open Z renaming aoZ→Qv in exact QF):P:=h
def akZ(h:P:=by
 open Z renaming ao0→Qv in exact QF):P:=h
def Ds(h:P:=by
 have hF:=Zf (show (false)=R by first|exact hR|(rw[←hR];simp[q1,q2,q3,q4,q5,q6,q7,q8]));exact GU):P:=h
def tB(h:P:=by
 go_wp2_with fail;refine (qko.out _ (hcu.out _)).mono ?_;rintro r w' ⟨rfl,x5,rfl⟩;clear qko;rw[ZD];obtain⟨Y5,hY5⟩:=ZB ((⟨ZH.blocks Yc++ZH.blocks x5,ZH.draws x5⟩:ZH):ZH);exact A7):P:=h
def ak0(h:P:=by
 rw[hY5];clear hY5;go_wp2_with fail;refine (OS tw wc Y5).mono ?_;rintro r w' ⟨rfl,x6,rfl⟩;rw[ZD];obtain⟨Y6,hY6⟩:=ZB ((⟨ZH.blocks Y5++ZH.blocks x6,ZH.draws x6⟩:ZH):ZH);rw[hY6];clear hY6;simp only[Ty.v,XN];have YS:=Wd.out Y6;have r0:=YS.r0;have r1:=YS.r1;have r2:=YS.r2;have rf:=YS.rf;have Vu:=Zf YS;clear YS Wd;go_wp2;obtain⟨Z,hZ,g0,g1,g2,hV⟩:=Vu.out.set ⟨tw,false,false⟩;simp only at hZ;rw[hZ];clear hZ;exact bodyPost_ret (v:=.agg #[.int .i64 tw,.bool false,.bool false]) auk rfl ⟨rfl,hV⟩):P:=h
def IY(h:P:=by
 go_enter func103,ntmps103;go_upto_region 1 with (fail)
 obtain⟨X,Y0,hX,⟨zX,ZE⟩,ca,cb⟩:=Xu V _ _ 90 45;exact Jk):P:=h
def ak1(h:P:=by
 open Z renaming tU→WL in exact WO):P:=h
def ak2(h:P:=by
 open Z renaming anB→WL in exact WO):P:=h
def ak3(h:P:=by
 open Z renaming anC→WL in exact WO):P:=h
def ak4(h:P:=by
 open Z renaming anD→WL in exact WO):P:=h
def Mz(h:P:=by
 have q2x:a4.toList=[]:=asL;have q2y:(a4.toList !=[])=false:=asL;exact NU):P:=h
def ak5(h:P:=by
 by_cases q3:(a5.toList==[])=true
 case neg =>
  exact rM
 case pos =>
  open Z renaming akd→NT in exact My):P:=h
def ak6(h:P:=by
 open Z renaming DL→Vg in exact Vk):P:=h
def ak7(h:P:=by
 by_cases q3:(a5.toList==[])=true
 case neg =>
  open Z renaming rR→K9 in exact Iz
 case pos =>
  open Z renaming rL→NT in exact My):P:=h
def ak8(h:P:=by
 by_cases q3:(a5.toList==[])=true
 case neg =>
  exact rU
 case pos =>
  open Z renaming akg→NT in exact My):P:=h
def ak9(h:P:=by
 by_cases q3:(a5.toList==[])=true
 case neg =>
  exact rU
 case pos =>
  open Z renaming akf→NT in exact My):P:=h
def Dt(h:P:=by
 go_wp2_with (first|(go_at_call 119;with_reducible refine (q1.out _).mono ?_;rintro r w' ⟨rfl,x,rfl⟩));exact GV):P:=h
def Du(h:P:=by
 have hF:=Zf (show (true)=R by first|exact hR|(rw[←hR];simp[q1,q2,q3,q4,q5,q6,q7,q8]));exact GW):P:=h
def Dv(h:P:=by
 obtain⟨V,hV,g0,g1,g2,hz⟩:=VC SH.out (W.heap.size+1+1+1) asB _ _ _ _ (.int .i64 (0)) (.bool false) (.bool false) r0 r1 r2;rw[hV];exact GX):P:=h
def ala(h:P:=by
 clear hV;exact bodyPost_ret (v:=.tuple #[.agg #[.int .i64 (0),.bool false,.bool false],.int .i64 (B1)]) asY rfl ⟨rfl,hz⟩):P:=h
def alb(h:P:=by
 clear hV;exact bodyPost_ret (v:=.tuple #[.agg #[.int .i64 (0),.bool false,.bool false],.int .i64 (S1)]) asY rfl ⟨rfl,hz⟩):P:=h
def alc(h:P:=by
 clear hV;exact Ah):P:=h
def tF(h:P:=by
 obtain⟨R,hR⟩:=ZB (args.all Ex.ok);have YM:=Zf (show (args.drop 0).all Ex.ok=R from hR);rw[hR];have ZO:=Zf hn;have Yt:=Zf hl;have Wf:=Zf Yj;have ih':=Zf ih;clear hn hl Yj ih hR;exact A8):P:=h
def ald(h:P:=by
 have h0:=Zf h0;go_enter func205,ntmps205;go_wp2_with fail;obtain⟨W,yy,hW,⟨z,hz⟩,ca⟩:=YO V _ 45;open Z renaming acH→KV in exact Ij):P:=h
def ale(h:P:=by
 open Z renaming aoS→G8 in exact DZ):P:=h
def Dw(h:P:=by
 have hF:=Zf (show (false)=R by first|exact hR|(rw[←hR];simp[q1,q2,q3,q4,q5,q6,q7]));exact GY):P:=h
def tG(h:P:=by
 go_enter func37,ntmps37;go_upto_region 0 with (fail)
 rw[←Yk V];obtain⟨Y0,hY0⟩:=ZB ((⟨#[],V.drawn⟩:ZH):ZH);rw[hY0];clear hY0;refine Wj 10 asC asC ?_;exact A9):P:=h
def alf(h:P:=by
 open Z renaming afh→NM in exact Ms):P:=h
def alg(h:P:=by
 open Z renaming afk→NM in exact Ms):P:=h
def IZ(h:P:=by
 intro y0;have h1:=h1.up y0;obtain⟨W,hW⟩:=ZB (plus w y0);rw[hW]at h1 ⊢;clear hW;have YA:=Zf h1;clear h1;exact Jl):P:=h
def ali(h:P:=by
 open Z renaming aqF→Pq in exact PT):P:=h
def alj(h:P:=by
 open Z renaming aqK→Pq in exact PT):P:=h
def alk(h:P:=by
 open Z renaming aqL→Pq in exact PT):P:=h
def alm(h:P:=by
 open Z renaming aqM→Pq in exact PT):P:=h
def tI(h:P:=by
 intro y0;have h0:=h0.up y0;have Yj:=Yj.plus y0;have ih:=fun x hx=>(ih x hx).up y0;have hx:=hx.plus y0;have h1:=h1.up y0;obtain⟨V,hV⟩:=ZB (plus w y0);rw[hV]at h0 Yj ih hx h1 ⊢;clear hV;subst hp SF;exact zb):P:=h
def aln(h:P:=by
 have s14:(op==14)=true:=atx;exact qJ):P:=h
def alp(h:P:=by
 have s14:(op==14)=false:=atx;have s15:(op==15)=true:=atx;exact qJ):P:=h
def tJ(h:P:=by
 go_enter func195,ntmps195;go_wp2_with fail;obtain⟨W,yy,hW,⟨z,hz⟩,cb0,cb1⟩:=Xu V _ _ 221 47;rw[hW];have c0_0:=cb0 0 _ rfl;have c0_1:=cb0 1 _ rfl;have c0_2:=cb0 2 _ rfl;have c0_3:=cb0 3 _ rfl;exact zd):P:=h
def alq(h:P:=by
 open Z renaming adA→Lc in exact LS):P:=h
def alr(h:P:=by
 open Z renaming alz→GZ in exact Dx):P:=h
def tL(h:P:=by
 obtain⟨b,rfl,rfl,⟨s0,s1,s2⟩,-,-,-,-,-,-,-,-,-,-,-,-,-,-,-,-,-,hO⟩:=hcut;obtain⟨zX,rfl⟩:=hO;obtain⟨wx,hwx⟩:=ZB (plus W zX);rw[hwx]at s0 s1 s2 ⊢;have ZE:=hwx.symm;clear hwx;exact ze):P:=h
def als(h:P:=by
 replace g0:=ZM ZE g0;replace g1:=ZM ZE g1;replace g2:=ZM ZE g2;replace g3:=ZM ZE g3;replace g4:=ZM ZE g4;replace g5:=ZM ZE g5;replace g6:=ZM ZE g6;replace c0:=ZM ZE c0;replace c1:=ZM ZE c1;replace c2:=ZM ZE c2;replace c3:=ZM ZE c3;replace c4:=ZM ZE c4;replace c5:=ZM ZE c5;replace c6:=ZM ZE c6;replace c7:=ZM ZE c7;replace c8:=ZM ZE c8;replace r0:=ZM ZE r0;replace r1:=ZM ZE r1;replace r2:=ZM ZE r2;have fr2:∀y o,(plus wx y).frozen? ⟨w.heap.size+1+1,o,none⟩=false:=fun y o=>by rw[ZE,ZD];exact fr _ o
 have s0:=fun y=>ZS s0 y;have s1:=fun y=>ZS s1 y;have s2:=fun y=>ZS s2 y;have hE:=Zf (show wx=plus w _ from by rw[ZE,hz.out,ZD]);clear hO0 d0 d1 d2 d3 d4 d5 d6 d7 d8 fr hsW ZE kS;rw[←Yk wx];by_cases hR:R1=0
 case neg =>
  have Wd:(R1 !=0)=true:=by simpa using hR
  obtain⟨rfl,rfl,rfl,rfl⟩:=YA.out hR;clear YA Xg VP T8 hz;go_wp2;obtain⟨V,hV,v0,v1,v2,hzz⟩:=VC hE.out (w.heap.size+1+1) asB _ _ _ _ (.int .i64 0) (.bool false) (.bool false) r0 r1 r2;exact sI
 case pos =>
 subst hR;clear YA hz;by_cases TK:N=1
 case pos =>
  have q1:=Zf (ZK hE.out (Xg.out rfl TK));clear Xg VP T8;subst TK;go_wp2_with (first|(go_at_call 182;with_reducible refine (q1.out _).mono ?_;rintro r w' ⟨rfl,x,rfl⟩));exact sL
 case neg =>
 clear Xg;have hNn:((N:Int)==1)=false:=beq_eq_false_iff_ne.2 asB;by_cases W8:op=14∨op=15
 case pos =>
  obtain⟨kb,hb1,hb2⟩:=VP.out rfl TK W8;have q1:=Zf (ZK hE.out kb);have hb1':=Zf hb1;have hb2':=Zf hb2;clear VP T8 kb hb1 hb2;rcases W8 with rfl|rfl
  all_goals
   by_cases hB:B=0
   ·obtain⟨rfl,rfl,rfl,rfl⟩:=hb2'.out hB
    subst hB;clear hb1' hb2';go_wp2_with (first|(go_at_call 116;with_reducible refine (q1.out _).mono ?_;rintro r w' ⟨rfl,x,rfl⟩));obtain⟨V,hV,v0,v1,v2,hzz⟩:=VC hE.out (w.heap.size+1+1) asB _ _ _ _ (.int .i64 rw) (.bool rt) (.bool rf) r0 r1 r2;rw[hV];clear hV;exact bodyPost_ret (v:=.tuple #[.agg #[.int .i64 rw,.bool rt,.bool rf],.int .i64 0]) atY rfl ⟨rfl,hzz⟩
   ·have hBn:(B !=0)=true:=by simpa using hB
    obtain⟨rfl,rfl,rfl,rfl⟩:=hb1'.out hB;clear hb1' hb2';go_wp2_with (first|(go_at_call 116;with_reducible refine (q1.out _).mono ?_;rintro r w' ⟨rfl,x,rfl⟩));obtain⟨V,hV,v0,v1,v2,hzz⟩:=VC hE.out (w.heap.size+1+1) asB _ _ _ _ (.int .i64 0) (.bool false) (.bool false) r0 r1 r2;rw[hV];clear hV;exact bodyPost_ret (v:=.tuple #[.agg #[.int .i64 0,.bool false,.bool false],.int .i64 RE]) atY rfl ⟨rfl,hzz⟩
 case neg =>
  obtain⟨hN2,Tw,kb,hu1,hu2⟩:=T8.out rfl TK W8;have o14:(op==14)=false:=beq_eq_false_iff_ne.2 (fun e=>W8 (.inl e));have o15:(op==15)=false:=beq_eq_false_iff_ne.2 (fun e=>W8 (.inr e));have UM:=(YR hE.out Tw);have d0:∀y,(plus wx y).cell? ⟨pa.block,pa.off+9,none⟩=some (.int .u8 bop):=fun y=>(UM.plus y).c0 _ rfl;have d1:∀y,(plus wx y).cell? ⟨pa.block,pa.off+10,none⟩=some (.int .i64 blw):=fun y=>(UM.plus y).cs 0 _ rfl;have d2:∀y,(plus wx y).cell? ⟨pa.block,pa.off+11,none⟩=some (.int .u64 blh):=fun y=>(UM.plus y).cs 1 _ rfl;have d3:∀y,(plus wx y).cell? ⟨pa.block,pa.off+12,none⟩=some (.int .u64 bll):=fun y=>(UM.plus y).cs 2 _ rfl;have d4:∀y,(plus wx y).cell? ⟨pa.block,pa.off+13,none⟩=some (.string bhd):=fun y=>(UM.plus y).cs 3 _ rfl;have d5:∀y,(plus wx y).cell? ⟨pa.block,pa.off+14,none⟩=some (.string bnm):=fun y=>(UM.plus y).cs 4 _ rfl;have d6:∀y,(plus wx y).cell? ⟨pa.block,pa.off+15,none⟩=some (.int .i64 beh):=fun y=>(UM.plus y).cs 5 _ rfl;have d7:∀y,(plus wx y).cell? ⟨pa.block,pa.off+16,none⟩=some (.int .i64 bel):=fun y=>(UM.plus y).cs 6 _ rfl;have d8:∀y,(plus wx y).cell? ⟨pa.block,pa.off+17,none⟩=some (.slice bp bn bc):=fun y=>(UM.plus y).cs 7 _ rfl;have kS:=Zf (Fh kb hE.out);have hu1':=Zf hu1;have hu2':=Zf hu2;have hN3:1<N:=asB;have hN4:(1:Int)<(N:Int):=asB;clear VP T8 Tw kb hu1 hu2 UM W8;go_upto_region 13 with (fail)
  obtain⟨W1,Y8⟩:=ZB (plus wx ⟨#[],wx.drawn⟩);rw[Y8];have XE:Xo wx W1:=⟨_,Y8.symm⟩;clear Y8;go_cut [11,9] from 60 to 69 (fun s11 s9 wy=>∃b2:Nat,s11=.pointer (some ⟨b2,0,none⟩)∧s9=.int .i64 R2∧(wy.cell? ⟨b2,0,none⟩=some (.int .i64 uw)∧wy.cell? ⟨b2,1,none⟩=some (.bool ut)∧wy.cell? ⟨b2,2,none⟩=some (.bool uf))∧wy.cell? ⟨w.heap.size,0,none⟩=some (.slice p.headers.p p.headers.l.length p.headers.cap)∧wy.cell? ⟨w.heap.size,1,none⟩=some (.slice p.metas.p p.metas.l.length p.metas.cap)∧wy.cell? ⟨w.heap.size,2,none⟩=some (.slice p.states.p p.states.l.length p.states.cap)∧wy.cell? ⟨w.heap.size,3,none⟩=some (.slice p.actions.p p.actions.l.length p.actions.cap)∧wy.cell? ⟨w.heap.size,4,none⟩=some (.slice p.tables.p p.tables.l.length p.tables.cap)∧wy.cell? ⟨w.heap.size,5,none⟩=some (.slice p.control.p p.control.l.length p.control.cap)∧wy.cell? ⟨w.heap.size,6,none⟩=some (.slice p.emit.p p.emit.l.length p.emit.cap)∧wy.cell? ⟨w.heap.size+1,8,none⟩=some (.slice (some pa) N cap)∧wy.cell? ⟨pa.block,pa.off+9,none⟩=some (.int .u8 bop)∧wy.cell? ⟨pa.block,pa.off+10,none⟩=some (.int .i64 blw)∧wy.cell? ⟨pa.block,pa.off+11,none⟩=some (.int .u64 blh)∧wy.cell? ⟨pa.block,pa.off+12,none⟩=some (.int .u64 bll)∧wy.cell? ⟨pa.block,pa.off+13,none⟩=some (.string bhd)∧wy.cell? ⟨pa.block,pa.off+14,none⟩=some (.string bnm)∧wy.cell? ⟨pa.block,pa.off+15,none⟩=some (.int .i64 beh)∧wy.cell? ⟨pa.block,pa.off+16,none⟩=some (.int .i64 bel)∧wy.cell? ⟨pa.block,pa.off+17,none⟩=some (.slice bp bn bc)∧Xo wx wy)
  case first =>
   have hS:∀U,Xo wx U→(U.cell? ⟨w.heap.size,0,none⟩=some (.slice p.headers.p p.headers.l.length p.headers.cap)∧U.cell? ⟨w.heap.size,1,none⟩=some (.slice p.metas.p p.metas.l.length p.metas.cap)∧U.cell? ⟨w.heap.size,2,none⟩=some (.slice p.states.p p.states.l.length p.states.cap)∧U.cell? ⟨w.heap.size,3,none⟩=some (.slice p.actions.p p.actions.l.length p.actions.cap)∧U.cell? ⟨w.heap.size,4,none⟩=some (.slice p.tables.p p.tables.l.length p.tables.cap)∧U.cell? ⟨w.heap.size,5,none⟩=some (.slice p.control.p p.control.l.length p.control.cap)∧U.cell? ⟨w.heap.size,6,none⟩=some (.slice p.emit.p p.emit.l.length p.emit.cap)∧U.cell? ⟨w.heap.size+1,8,none⟩=some (.slice (some pa) N cap)∧U.cell? ⟨pa.block,pa.off+9,none⟩=some (.int .u8 bop)∧U.cell? ⟨pa.block,pa.off+10,none⟩=some (.int .i64 blw)∧U.cell? ⟨pa.block,pa.off+11,none⟩=some (.int .u64 blh)∧U.cell? ⟨pa.block,pa.off+12,none⟩=some (.int .u64 bll)∧U.cell? ⟨pa.block,pa.off+13,none⟩=some (.string bhd)∧U.cell? ⟨pa.block,pa.off+14,none⟩=some (.string bnm)∧U.cell? ⟨pa.block,pa.off+15,none⟩=some (.int .i64 beh)∧U.cell? ⟨pa.block,pa.off+16,none⟩=some (.int .i64 bel)∧U.cell? ⟨pa.block,pa.off+17,none⟩=some (.slice bp bn bc)∧Xo wx U):=fun U hU=>by
    exact sH
   have Vn:=Zf hS;have hO2:=Zf XE;have Uy:Hid (wx.heap.size≤W1.heap.size):=by obtain⟨z,rfl⟩:=XE;exact XZ wx z
   clear hS XE hE hu1' hu2' fr2 hN2 TK hNn g0 g1 g2 g3 g4 g5 g6 c0 c1 c2 c3 c4 c5 c6 c7 c8 d0 d1 d2 d3 d4 d5 d6 d7 d8 r0 r1 r2 s0 s1 s2;go_region_held3 (fun U=>U.cell? ⟨w.heap.size,0,none⟩=some (.slice p.headers.p p.headers.l.length p.headers.cap)∧U.cell? ⟨w.heap.size,1,none⟩=some (.slice p.metas.p p.metas.l.length p.metas.cap)∧U.cell? ⟨w.heap.size,2,none⟩=some (.slice p.states.p p.states.l.length p.states.cap)∧U.cell? ⟨w.heap.size,3,none⟩=some (.slice p.actions.p p.actions.l.length p.actions.cap)∧U.cell? ⟨w.heap.size,4,none⟩=some (.slice p.tables.p p.tables.l.length p.tables.cap)∧U.cell? ⟨w.heap.size,5,none⟩=some (.slice p.control.p p.control.l.length p.control.cap)∧U.cell? ⟨w.heap.size,6,none⟩=some (.slice p.emit.p p.emit.l.length p.emit.cap)∧U.cell? ⟨w.heap.size+1,8,none⟩=some (.slice (some pa) N cap)∧U.cell? ⟨pa.block,pa.off+9,none⟩=some (.int .u8 bop)∧U.cell? ⟨pa.block,pa.off+10,none⟩=some (.int .i64 blw)∧U.cell? ⟨pa.block,pa.off+11,none⟩=some (.int .u64 blh)∧U.cell? ⟨pa.block,pa.off+12,none⟩=some (.int .u64 bll)∧U.cell? ⟨pa.block,pa.off+13,none⟩=some (.string bhd)∧U.cell? ⟨pa.block,pa.off+14,none⟩=some (.string bnm)∧U.cell? ⟨pa.block,pa.off+15,none⟩=some (.int .i64 beh)∧U.cell? ⟨pa.block,pa.off+16,none⟩=some (.int .i64 bel)∧U.cell? ⟨pa.block,pa.off+17,none⟩=some (.slice bp bn bc)∧Xo wx U) (exact Vn.out _ (by repeat (first|exact hO2.out|assumption|apply Xo.drew|apply Xo.alloc|apply Xo.plus|refine Xo.set ?_ _ _ ?_|exact Uy.out|exact Nat.le_trans Uy.out (XZ W1.drew _)|exact Nat.le_trans Uy.out (Nat.le_trans (XZ W1.drew _) (Nat.le_succ _))))) (first|(go_at_call 115;refine (KG (kS.out _ (by repeat (first|exact hO2.out|assumption|apply Xo.drew|apply Xo.alloc|apply Xo.plus)))).mono ?_;rintro e w' ⟨rfl,x,rfl,hk⟩;first|(obtain⟨t0,t1,t2,t3,t4,t5,t6,t7,t8,t9,ta,tb⟩:=hk _ atQ;clear hk;try simp only[World.size_alloc]at t0 t1 t2 t3 t4 t5 t6 t7 t8 t9 ta tb)|skip));all_goals
    go_wp2_with fail;go_meet;refine⟨_,rfl,rfl,?_,asF⟩;first|exact Eb _ _ _ asF asF asF|exact⟨(YI _ _ _ _ _ rfl).trans rfl,(YI _ _ _ _ _ rfl).trans rfl,(YI _ _ _ _ _ rfl).trans rfl⟩
  case rest =>
   obtain⟨b2,rfl,rfl,⟨t0,t1,t2⟩,-,-,-,-,-,-,-,-,-,-,-,-,-,-,-,-,-,hO⟩:=hcut;obtain⟨zY,rfl⟩:=hO;obtain⟨wy,hwy⟩:=ZB (plus wx zY);rw[hwy]at t0 t1 t2 ⊢;have UV:=hwy.symm;clear hwy;replace c0:=ZM UV c0;replace c1:=ZM UV c1;replace c2:=ZM UV c2;replace c3:=ZM UV c3;replace c4:=ZM UV c4;replace c5:=ZM UV c5;replace c6:=ZM UV c6;replace c7:=ZM UV c7;replace c8:=ZM UV c8;replace r0:=ZM UV r0;replace r1:=ZM UV r1;replace r2:=ZM UV r2;replace s0:=ZM UV s0;replace s1:=ZM UV s1;replace s2:=ZM UV s2;have fr3:∀y o,(plus wy y).frozen? ⟨w.heap.size+1+1,o,none⟩=false:=fun y o=>by rw[UV,ZD];exact fr2 _ o
   have t0:=fun y=>ZS t0 y;have t1:=fun y=>ZS t1 y;have t2:=fun y=>ZS t2 y;have hE2:=Zf (show wy=plus w _ from by rw[UV,hE.out,ZD]);clear XE fr2 UV kS hE d0 d1 d2 d3 d4 d5 d6 d7 d8 g0 g1 g2 g3 g4 g5 g6;rw[←Yk wy];by_cases hQ:R2=0
   case neg =>
    have hQ2:(R2 !=0)=true:=by simpa using hQ
    obtain⟨rfl,rfl,rfl,rfl⟩:=hu1'.out hQ;clear hu1' hu2';go_wp2;obtain⟨V,hV,v0,v1,v2,hzz⟩:=VC hE2.out (w.heap.size+1+1) asB _ _ _ _ (.int .i64 0) (.bool false) (.bool false) r0 r1 r2;exact sI
   case pos =>
    subst hQ;have q1:=Zf (ZK hE2.out (hu2'.out rfl));clear hu1' hu2';go_wp2_with (first|(go_at_call 183;with_reducible refine (q1.out _).mono ?_;rintro r w' ⟨rfl,x,rfl⟩));obtain⟨V,hV,v0,v1,v2,hzz⟩:=VC hE2.out (w.heap.size+1+1) asB _ _ _ _ (.int .i64 rw) (.bool rt) (.bool rf) r0 r1 r2;exact sK):P:=h
def alt(h:P:=by
 replace c1:=ZM ZE c1;replace u0:=ZM ZE u0;replace u1:=ZM ZE u1;replace u2:=ZM ZE u2;replace u3:=ZM ZE u3;replace u4:=ZM ZE u4;replace u5:=ZM ZE u5;replace u6:=ZM ZE u6;have s0:=fun y=>ZS s0 y;have qv:=Zf (ZK ZE qv.out);have qm:=Zf (ZK ZE qm.out);have hE:=Zf (show ∃z,wx=plus W z from⟨_,ZE⟩);clear hO0 ZE s1 s2 kS b3 g0 g1 g2 g3 g4 g5 g6 d0 d1 d2 d3 d4 d5 d6 d7 d8;rw[←Yk wx];rcases hkd'.out with⟨rfl,YH,Xt⟩|⟨rfl,Xt⟩|rfl
 ·subst YH Xt
  rw[if_pos rfl]at Vf;go_wp2;go_roundw
  case rel=>exact⟨k+1,ZC,congrArg (Zz .i64) a6.out,aup,Zf (fun j y hj hy=>by
     by_cases UQ:j<k
     ·exact hJ.out j y UQ hy
     ·obtain rfl:j=k:=by omega
      rw[Vf.out]at hy;exact (Option.some.inj hy).symm)⟩
  case measure=>exact Y9 k n ZC a6.out
 ·subst Xt
  open Z renaming ajc→AC in exact uD
 ·open Z renaming ajd→AC in exact uD):P:=h
def tM(h:P:=by
 clear q1 hzv hV hBV hsV cv fv d0 d1 d2 d3 d4;refine EG asC asC ?_;repeat (go_big_quiet_step (first|(with_reducible exact q1'.out _)))
 refine wpQuiet_nil ?_;rintro _ ⟨y1,rfl⟩;rw[a7.out];exact zf):P:=h
def alu(h:P:=by
 obtain⟨B3,hB3⟩:=ZB (N0+1+nm.size+tX9.size+KK);rw[hB3];have Nz:=Zf hB3;have jy:Sl.In V 9 Ex.cells (Ex.In V) ⟨yp,yc,yl⟩:=by rw[hzvh.out];exact xkh.out.plus (fun _ a=>a.plus _) _
 have jz:Sl.In V 3 Ca.cells (Ca.In V) ⟨zp,zc,zl⟩:=by rw[hzvh.out];exact xch.out.plus (fun _ a=>a.plus _) _
 have jy':=Zf jy;have jz':=Zf jz;clear hB3 a7 q1' v0 v1 v2 jy jz xth xkh xch hKh;go_wp2;go_loopw [3,7] (fun nv iv wr=>∃j:Nat,j≤ny∧iv=.int .i64 (j:Int)∧nv=.int .i64 (YT Ex.wt B3 yl j:Int)∧∃y,wr=plus V y) (fun _ iv _=>ny-(intOf iv).toNat)
 case atStart=>exact⟨0,Zw _,rfl,congrArg (Zz .i64) as0,y1,rfl⟩
 case round =>
  obtain⟨j,hj,rfl,rfl,y,rfl⟩:=hrel;by_cases Tz:j<ny
  ·obtain⟨e,he⟩:=Yq yl j (by rw[SB.out.2.1];exact Tz)
   obtain⟨a2,rfl,hc⟩:=jy'.out.row j e he;have r3:=R4 Ex.wt B3 yl j e he;have r4:=RZ Ex.wt B3 yl (j+1);have hei:=jy'.out.kids e (Zo he);obtain⟨E1,hE1⟩:=ZB e.wt;have r0:YT Ex.wt B3 yl (j+1)≤1048576:=auL;open Z renaming acj→BE in exact wv
  ·obtain rfl:j=ny:=by omega
   have VJ:YT Ex.wt B3 yl j=B3+Y:=by rw[RY Ex.wt _ yl j SB.out.2.1,SB.out.1]
   rw[VJ];clear VJ Tz hj jy';go_wp2;clear v3;obtain⟨B4,hB4⟩:=ZB (B3+Y);rw[hB4];have hB4':=Zf hB4;clear hB4;go_loopw [3,8] (fun nv iv wr=>∃j:Nat,j≤nz∧iv=.int .i64 (j:Int)∧nv=.int .i64 (YT Ca.sz B4 zl j:Int)∧∃y,wr=plus V y) (fun _ iv _=>nz-(intOf iv).toNat)
   case atStart=>exact⟨0,Zw _,rfl,congrArg (Zz .i64) as0,y,rfl⟩
   case round =>
    obtain⟨j,hj,rfl,rfl,y,rfl⟩:=hrel;by_cases Tz:j<nz
    ·obtain⟨c,Rf⟩:=Yq zl j (by rw[SB.out.2.2.2];exact Tz)
     obtain⟨a2,rfl,hc⟩:=jz'.out.row j c Rf;have r3:=R4 Ca.sz B4 zl j c Rf;have r4:=RZ Ca.sz B4 zl (j+1);have r0:YT Ca.sz B4 zl (j+1)≤1048576:=by have h1:=SB.out.2.2.1;have h2:=a3h.out;have h3:=b0h.out;have h4:=Nz.out;have h5:=hB4'.out;omega
     obtain⟨df,⟨gp,gc,gl⟩,cto⟩:=c;have r5:Ca.sz ⟨df,⟨gp,gc,gl⟩,cto⟩=1+cto.size+gl.length:=by show 1+(gl.map Se.sz).sum+cto.size=_;rw[Ei Se.sz (fun _=>rfl)];omega
     have e1:=fun y=>(hc.plus y).cs 0 _ rfl;have e2:=fun y=>(hc.plus y).cs 1 _ rfl;simp only[Sl.v]at e1 e2;have r6:=Zf (Y7 j nz Tz bz_.out);have r7:=Zf (xR (YT Ca.sz B4 zl j) cto.size gl.length (YT Ca.sz B4 zl (j+1)) (by rw[r3,r5]) r0);clear r3 r4 r5 r0 hc Rf;go_wp2;refine Wz asC asC ?_;repeat (go_big_quiet_step (fail))
     refine wpQuiet_nil ?_;rintro _ ⟨y2,rfl⟩;go_wp2;go_roundw
     case rel=>exact⟨j+1,Tz,congrArg (Zz .i64) r6.out,congrArg (Zz .i64) r7.out,y2,rfl⟩
     case measure=>exact Y9 j nz Tz r6.out
    ·obtain rfl:j=nz:=by omega
     have VJ:YT Ca.sz B4 zl j=YT Sa.sz B2 sl (k+1):=by
      have h1:=SB.out.2.2.1;have h2:=a3h.out;have h3:=Nz.out;have h4:=hB4'.out;rw[RY Ca.sz _ zl j SB.out.2.2.2,hN1h.out];omega
     rw[VJ];clear VJ Tz hj jz';go_wp2;go_roundw
     case rel=>exact⟨k+1,ZC,congrArg (Zz .i64) a6.out,rfl,by rw[hzvh.out,ZD];exact⟨_,rfl⟩⟩
     case measure=>exact Y9 k ns ZC a6.out):P:=h
def alv(h:P:=by
 obtain⟨B3,hB3⟩:=ZB (N0+1+nm.size+KK+dn.size+gl.length);rw[hB3];have Nz:=Zf hB3;have jy:Sl.In V 10 Ke.cells (Ke.In V) ⟨yp,yc,yl⟩:=by rw[hzvh.out];exact xkh.out.plus (fun _ a=>a.plus _) _
 have jy':=Zf jy;clear hB3 a7 q1' v0 v2 v3 v4 jy xth xkh hKh;go_wp2;go_loopw [3,12] (fun nv iv wr=>∃j:Nat,j≤ny∧iv=.int .i64 (j:Int)∧nv=.int .i64 (YT Ke.sz B3 yl j:Int)∧∃y,wr=plus V y) (fun _ iv _=>ny-(intOf iv).toNat)
 case atStart=>exact⟨0,Zw _,rfl,congrArg (Zz .i64) as0,y1,rfl⟩
 case round =>
  obtain⟨j,hj,rfl,rfl,y,rfl⟩:=hrel;by_cases Tz:j<ny
  ·obtain⟨e,he⟩:=Yq yl j (by rw[SB.out.2];exact Tz)
   obtain⟨a2,rfl,hc⟩:=jy'.out.row j e he;have r3:=R4 Ke.sz B3 yl j e he;have r4:=RZ Ke.sz B3 yl (j+1);have hei:=jy'.out.kids e (Zo he);obtain⟨e,kd⟩:=e;obtain⟨hei,_⟩:=hei;have r5:Ke.sz ⟨e,kd⟩=1+e.wt:=rfl;rw[r5]at r3;obtain⟨E1,hE1⟩:=ZB e.wt;have r0:YT Ke.sz B3 yl (j+1)≤1048576:=auL;open Z renaming ack→BE in exact wv
  ·obtain rfl:j=ny:=by omega
   have VJ:YT Ke.sz B3 yl j=YT Ta.sz B6 tl (k+1):=by
    have h1:=SB.out.1;have h2:=a3h.out;have h3:=Nz.out;rw[RY Ke.sz _ yl j SB.out.2,hN1h.out];omega
   rw[VJ];clear VJ Tz hj jy';go_wp2;go_roundw
   case rel=>exact⟨k+1,ZC,congrArg (Zz .i64) a6.out,rfl,by rw[hzvh.out,ZD];exact⟨_,rfl⟩⟩
   case measure=>exact Y9 k nt ZC a6.out):P:=h
def Dx(h:P:=by
 have c1_0:=cb1 0 _ rfl;have c1_1:=cb1 1 _ rfl;have c1_2:=cb1 2 _ rfl;have c1_3:=cb1 3 _ rfl;have c1_4:=cb1 4 _ rfl;have c1_5:=cb1 5 _ rfl;exact GZ):P:=h
def alx(h:P:=by
 have c1_6:=cb1 6 _ rfl;exact MJ):P:=h
def aly(h:P:=by
 have c1_6:=cb1 6 _ rfl;exact Lc):P:=h
def alz(h:P:=by
 have c1_6:=cb1 6 _ rfl;open Z renaming MJ→AX in exact th):P:=h
def Dz(h:P:=by
 simp only[Act.put,Zp,Zr,Zq];refine wpAnyH_ready (rs:=[4,11]) asC asD ?_;exact G0):P:=h
def alA(h:P:=by
 refine Za rfl (fun K hK=>?_) ?_
 ·have UA:U0.cell? ⟨cb,7,none⟩=some kv:=by obtain⟨z,hz⟩:=hp;rw[hz];exact (HBU.out.plus z).at.keys
  go_simp;refine hK.out _ _ hHeld (fun hHeld11=>?_);open Z renaming akA→GP in exact Dq
 refine Za rfl (fun K hK=>?_) AllReadyH.nil;go_simp;refine (qt.out U0 hp).mono ?_;rintro r w' ⟨rfl,x16,hx16⟩;have NF:∃z,w'=plus U z:=by rw[hx16];exact Uj hp x16
 refine hK.out _ _ (by rw[hx16];exact hHeld.plus x16) (fun Ge=>?_);clear hK K hx16;obtain⟨U16,hU16⟩:=ZB w';rw[hU16]at Ge NF ⊢;clear hU16;refine wpAnyH_ready (rs:=[4,12]) asC asD ?_;refine Za rfl (fun K hK=>?_) ?_
 ·have UA:U16.cell? ⟨cb,7,none⟩=some kv:=by obtain⟨z,hz⟩:=NF;rw[hz];exact (HBU.out.plus z).at.keys
  go_simp;refine hK.out _ _ Ge (fun hHeld17=>?_);clear hK K UA;open Z renaming alD→Jm in exact I0
 refine Za rfl (fun K hK=>?_) AllReadyH.nil;go_simp;refine (qw.out U16 NF).mono ?_;rintro r w' ⟨rfl,x21,hx21⟩;have hp21:∃z,w'=plus U z:=by rw[hx21];exact Uj NF x21
 refine hK.out _ _ (by rw[hx21];exact Ge.plus x21) (fun Gf=>?_);clear hK K hx21;obtain⟨U21,hU21⟩:=ZB w';rw[hU21]at Gf hp21 ⊢;clear hU21;refine wpAnyH_ready (rs:=[4,13]) asC asD ?_;refine Za rfl (fun K hK=>?_) ?_
 ·have UA:U21.cell? ⟨cb,7,none⟩=some kv:=by obtain⟨z,hz⟩:=hp21;rw[hz];exact (HBU.out.plus z).at.keys
  go_simp;refine hK.out _ _ Gf (fun hHeld22=>?_);clear hK K UA;refine wpAnyH_ready (rs:=[13]) asC asD ?_;refine Za rfl (fun K hK=>?_) AllReadyH.nil;go_simp;have hp23:∃z,U21.alloc (.cells #[.int .i64 t.w] 3)=plus U z:=So hp21 _;refine hK.out _ _ (hHeld22.keep (fun j v _ q=>YG q _) (fun j v q=>YG q _)) (fun Bq=>?_);clear hK K;have hN:=World.alloc_heap_new U21 (.cells #[.int .i64 t.w] 3);obtain⟨nb,W7⟩:=ZB U21.heap.size;obtain⟨U23,hU23⟩:=ZB (U21.alloc (.cells #[.int .i64 t.w] 3));rw[W7,hU23]at hN;rw[hU23]at Bq hp23;rw[W7,hU23];clear hU23 W7;refine wpAnyH_ready (rs:=[14]) asC asD ?_;refine Za rfl (fun K hK=>?_) AllReadyH.nil;obtain⟨SY,hz24⟩:=hp23;have hO24:=OL HOU.out SY;have hB24:=HBU.out.plus SY;have hS24:V.heap.size≤U23.heap.size:=by rw[hz24];have:=XZ U SY;have:=Heb.out;omega
  have hI24:cb<U23.heap.size:=at6;have hJ24:eb<U23.heap.size:=by rw[hz24];have:=XZ U SY;have:=Heb.out;omega
  rw[←hz24]at hO24 hB24;obtain⟨i0,hi0,Ux,WK,Vd⟩:=info_parts KU;refine step_append_lies _ rfl (.tmp 20) (.tmp 29) 79 rfl V.heap.size 3 i0 _ 1 8 Tryz.underlying79 hi0 Ux WK Vd rfl asE kv k _ atc hO24 ⟨nb,0,none⟩ 1 1 [.int .i64 t.w] atc rfl (World.news_of_block hN) (fun u hu=>at7) asE at8 atG hS24 _ rfl ?_;open Z renaming akl→Ji in exact IU
 refine Za rfl (fun K hK=>?_) AllReadyH.nil;go_simp;have hp25:∃z,U21.alloc (.cells #[.int .i64 t.w] 3)=plus U z:=So hp21 _;refine hK.out _ _ (Gf.keep (fun j v _ q=>YG q _) (fun j v q=>YG q _)) (fun Bs=>?_);clear hK K;have hN:=World.alloc_heap_new U21 (.cells #[.int .i64 t.w] 3);obtain⟨nb,W7⟩:=ZB U21.heap.size;obtain⟨U25,hU25⟩:=ZB (U21.alloc (.cells #[.int .i64 t.w] 3));rw[W7,hU25]at hN;rw[hU25]at Bs hp25;rw[W7,hU25];clear hU25 W7;refine wpAnyH_ready (rs:=[4]) asC asD ?_;refine Za rfl (fun K hK=>?_) AllReadyH.nil;have UA:U25.cell? ⟨cb,7,none⟩=some kv:=by obtain⟨z,hz⟩:=hp25;rw[hz];exact (HBU.out.plus z).at.keys
 go_simp;refine hK.out _ _ Bs (fun hHeld26=>?_);clear hK K UA;refine wpAnyH_ready (rs:=[14]) asC asD ?_;refine Za rfl (fun K hK=>?_) AllReadyH.nil;obtain⟨PM,hz27⟩:=hp25;have hO27:=OL HOU.out PM;have hB27:=HBU.out.plus PM;have hS27:V.heap.size≤U25.heap.size:=by rw[hz27];have:=XZ U PM;have:=Heb.out;omega
 have hI27:cb<U25.heap.size:=at6;have hJ27:eb<U25.heap.size:=by rw[hz27];have:=XZ U PM;have:=Heb.out;omega
 rw[←hz27]at hO27 hB27;obtain⟨i0,hi0,Ux,WK,Vd⟩:=info_parts KU;refine step_append_lies _ rfl (.tmp 20) (.tmp 29) 79 rfl V.heap.size 3 i0 _ 1 8 Tryz.underlying79 hi0 Ux WK Vd rfl asE kv k _ atc hO27 ⟨nb,0,none⟩ 1 1 [.int .i64 t.w] atc rfl (World.news_of_block hN) (fun u hu=>at7) asE at8 atG hS27 _ rfl ?_;open Z renaming akm→Ji in exact IU):P:=h
def alB(h:P:=by
 refine Za rfl (fun K hK=>?_) ?_
 ·have UA:U0.cell? ⟨cb,7,none⟩=some kv:=by obtain⟨z,hz⟩:=hp;rw[hz];exact (HBU.out.plus z).at.keys
  go_simp;refine hK.out _ _ hHeld (fun hHeld4=>?_);open Z renaming akB→GP in exact Dq
 refine Za rfl (fun K hK=>?_) AllReadyH.nil;go_simp;refine (qt.out U0 hp).mono ?_;rintro r w' ⟨rfl,x7,hx7⟩;have hp7:∃z,w'=plus U z:=by rw[hx7];exact Uj hp x7
 refine hK.out _ _ (by rw[hx7];exact hHeld.plus x7) (fun hHeld7=>?_);clear hK K hx7;obtain⟨U7,hU7⟩:=ZB w';rw[hU7]at hHeld7 hp7 ⊢;clear hU7;refine wpAnyH_ready (rs:=[4,12]) asC asD ?_;refine Za rfl (fun K hK=>?_) ?_
 ·have UA:U7.cell? ⟨cb,7,none⟩=some kv:=by obtain⟨z,hz⟩:=hp7;rw[hz];exact (HBU.out.plus z).at.keys
  go_simp;refine hK.out _ _ hHeld7 (fun hHeld8=>?_);clear hK K UA;open Z renaming alE→Jm in exact I0
 refine Za rfl (fun K hK=>?_) AllReadyH.nil;go_simp;refine (qw.out U7 hp7).mono ?_;rintro r w' ⟨rfl,x10,hx10⟩;exact⟨rfl,PB.out _ (by rw[hx10];exact Uj hp7 x10)⟩):P:=h
def alC(h:P:=by
 refine Za rfl (fun K hK=>?_) ?_
 ·have UA:U0.cell? ⟨cb,7,none⟩=some kv:=by obtain⟨z,hz⟩:=hp;rw[hz];exact (HBU.out.plus z).at.keys
  go_simp;refine hK.out _ _ hHeld (fun hHeld1=>?_);open Z renaming akC→GP in exact Dq
 refine Za rfl (fun K hK=>?_) AllReadyH.nil;go_simp;refine (qt.out U0 hp).mono ?_;rintro r w' ⟨rfl,x3,hx3⟩;exact⟨rfl,PA.out _ (by rw[hx3];exact Uj hp x3)⟩):P:=h
def I0(h:P:=by
 refine wpAnyH_ready (rs:=[12]) asC asD ?_;refine Za rfl (fun K hK=>?_) AllReadyH.nil;go_simp;exact Jm):P:=h
def alD(h:P:=by
 refine (qw.out U16 NF).mono ?_;rintro r w' ⟨rfl,x18,hx18⟩;have hp18:∃z,w'=plus U z:=by rw[hx18];exact Uj NF x18
 refine hK.out _ _ (by rw[hx18];exact hHeld17.plus x18) (fun Bl=>?_);clear hK K hx18;obtain⟨U18,hU18⟩:=ZB w';rw[hU18]at Bl hp18 ⊢;clear hU18;refine wpAnyH_ready (rs:=[13]) asC asD ?_;refine Za rfl (fun K hK=>?_) AllReadyH.nil;go_simp;have hp19:∃z,U18.alloc (.cells #[.int .i64 t.w] 3)=plus U z:=So hp18 _;refine hK.out _ _ (Bl.keep (fun j v _ q=>YG q _) (fun j v q=>YG q _)) (fun Bo=>?_);clear hK K;have hN:=World.alloc_heap_new U18 (.cells #[.int .i64 t.w] 3);obtain⟨nb,W7⟩:=ZB U18.heap.size;obtain⟨U19,hU19⟩:=ZB (U18.alloc (.cells #[.int .i64 t.w] 3));rw[W7,hU19]at hN;rw[hU19]at Bo hp19;rw[W7,hU19];clear hU19 W7;refine wpAnyH_ready (rs:=[14]) asC asD ?_;refine Za rfl (fun K hK=>?_) AllReadyH.nil;obtain⟨UG,hz20⟩:=hp19;have hO20:=OL HOU.out UG;have hB20:=HBU.out.plus UG;have hS20:V.heap.size≤U19.heap.size:=by rw[hz20];have:=XZ U UG;have:=Heb.out;omega
 have hI20:cb<U19.heap.size:=at6;have hJ20:eb<U19.heap.size:=by rw[hz20];have:=XZ U UG;have:=Heb.out;omega
 rw[←hz20]at hO20 hB20;obtain⟨i0,hi0,Ux,WK,Vd⟩:=info_parts KU;refine step_append_lies _ rfl (.tmp 20) (.tmp 29) 79 rfl V.heap.size 3 i0 _ 1 8 Tryz.underlying79 hi0 Ux WK Vd rfl asE kv k _ atc hO20 ⟨nb,0,none⟩ 1 1 [.int .i64 t.w] atc rfl (World.news_of_block hN) (fun u hu=>at7) asE at8 atG hS20 _ rfl ?_;open Z renaming akk→Ji in exact IU):P:=h
def alE(h:P:=by
 refine (qw.out U7 hp7).mono ?_;rintro r w' ⟨rfl,x9,hx9⟩;exact⟨rfl,PB.out _ (by rw[hx9];exact Uj hp7 x9)⟩):P:=h
def alF(h:P:=by
 refine (qw.out U12 hp12).mono ?_;rintro r w' ⟨rfl,x13,hx13⟩;have hp13:∃z,w'=plus U z:=by rw[hx13];exact Uj hp12 x13
 refine hK.out _ _ (by rw[hx13];exact Bh.plus x13) (fun Bi=>?_);clear hK K hx13;obtain⟨U13,hU13⟩:=ZB w';rw[hU13]at Bi hp13 ⊢;clear hU13;refine wpAnyH_ready (rs:=[13]) asC asD ?_;refine Za rfl (fun K hK=>?_) AllReadyH.nil;go_simp;have hp14:∃z,U13.alloc (.cells #[.int .i64 t.w] 3)=plus U z:=So hp13 _;refine hK.out _ _ (Bi.keep (fun j v _ q=>YG q _) (fun j v q=>YG q _)) (fun Bj=>?_);clear hK K;have hN:=World.alloc_heap_new U13 (.cells #[.int .i64 t.w] 3);obtain⟨nb,W7⟩:=ZB U13.heap.size;obtain⟨U14,hU14⟩:=ZB (U13.alloc (.cells #[.int .i64 t.w] 3));rw[W7,hU14]at hN;rw[hU14]at Bj hp14;rw[W7,hU14];clear hU14 W7;refine wpAnyH_ready (rs:=[14]) asC asD ?_;refine Za rfl (fun K hK=>?_) AllReadyH.nil;obtain⟨Q4,hz15⟩:=hp14;have hO15:=OL HOU.out Q4;have hB15:=HBU.out.plus Q4;have hS15:V.heap.size≤U14.heap.size:=by rw[hz15];have:=XZ U Q4;have:=Heb.out;omega
 have hI15:cb<U14.heap.size:=at6;have hJ15:eb<U14.heap.size:=by rw[hz15];have:=XZ U Q4;have:=Heb.out;omega
 rw[←hz15]at hO15 hB15;obtain⟨i0,hi0,Ux,WK,Vd⟩:=info_parts KU;refine step_append_lies _ rfl (.tmp 20) (.tmp 29) 79 rfl V.heap.size 3 i0 _ 1 8 Tryz.underlying79 hi0 Ux WK Vd rfl asE kv k _ atc hO15 ⟨nb,0,none⟩ 1 1 [.int .i64 t.w] atc rfl (World.news_of_block hN) (fun u hu=>at7) asE at8 atG hS15 _ rfl ?_;open Z renaming akj→Ji in exact IU):P:=h
def alG(h:P:=by
 refine (qw.out U5 hp5).mono ?_;rintro r w' ⟨rfl,x6,hx6⟩;exact⟨rfl,PB.out _ (by rw[hx6];exact Uj hp5 x6)⟩):P:=h
def I5(h:P:=by
 refine wpAnyH_ready (rs:=[15]) asC asD ?_;refine Za rfl (fun K hK=>?_) AllReadyH.nil;go_simp;exact Jo):P:=h
def alH(h:P:=by
 refine hK.out _ _ Bk (fun Pc=>?_);open Z renaming apX→Jv in exact Hu):P:=h
def alI(h:P:=by
 refine hK.out _ _ Bp (fun Pc=>?_);open Z renaming apY→Jv in exact Hu):P:=h
def alJ(h:P:=by
 refine hK.out _ _ Br (fun Pc=>?_);open Z renaming apZ→Jv in exact Hu):P:=h
def alK(h:P:=by
 refine hK.out _ _ Bu (fun Pc=>?_);open Z renaming ap0→Jv in exact Hu):P:=h
def tP(h:P:=by
 obtain⟨R,hR⟩:=ZB (Xe lo hi may l);have h0:(l.drop 0).all may=R:=by rw[←hR];unfold Xe;rw[hn,decide_eq_true (show lo≤(n:Int) by omega),decide_eq_true (show (n:Int)≤hi by omega)];rfl
 exact zi):P:=h
def alL(h:P:=by
 open Z renaming agr→Pl in exact PI):P:=h
def alM(h:P:=by
 open Z renaming agu→Pl in exact PI):P:=h
def DA(h:P:=by
 rw[hn,hR];rw[hn]at hl;have YV:=Zf hA;have ZO:=Zf hn;have Yt:=Zf hl;have YM:=Zf h0;clear hA hl hn hR h0 h hz hp;exact G1):P:=h
def alN(h:P:=by
 go_enter func119,ntmps119;go_wp2;generalize hU:W.alloc _=U;have hx:Hid (∃z,U=plus W z):=Zf (hU▸LD W _);have YV:=Zf (show Xa U 2 _ _ _ from atU);have u0:=(congrArg (fun X:World=>X.cell? ⟨W.heap.size,0,none⟩) hU).symm.trans ((YI W _ _ _ 0 rfl).trans rfl);clear hU;go_loopw [5] (fun iv wr=>∃k:Nat,k≤n∧iv=.int .i64 (k:Int)∧Hid (YL (fun x=>x.name.toList==s.toList) (p.headers.l.drop k) k=R)∧wr=U) (fun iv _=>n-(intOf iv).toNat)
 case atStart=>exact⟨0,Zw _,rfl,YM,rfl⟩
 case round =>
  obtain⟨k,hk,rfl,hs,rfl⟩:=hrel;by_cases ZC:k<n
  ·obtain⟨a,ha⟩:=Yq p.headers.l k asG
   obtain⟨pa,Yw,hc⟩:=YV.out k a ha;have ZQ:=(P8 (fun x=>x.name.toList==s.toList) p.headers.l k a ha).symm.trans hs.out;have d0:=hc.c0 _ rfl;have a6:=Zf (Y7 k n ZC Yt.out);clear hc ha hs;rw[Yw];by_cases hZ:(a.name.toList==s.toList)=true
   ·have ZP:=Zf (show (k:Int)=R from atD)
    clear ZQ;exact MC
   ·have ZP:=Zf (show YL (fun x=>x.name.toList==s.toList) (p.headers.l.drop (k+1)) (k+1)=R by rw[←ZQ,if_neg hZ])
    exact Kc
  ·exact Kd):P:=h
def alO(h:P:=by
 go_enter func44,ntmps44;go_wp2;generalize hU:W.alloc _=U;have hx:Hid (∃z,U=plus W z):=Zf (hU▸LD W _);have YV:=Zf (show Xa U 3 _ _ _ from atU);have u0:=(congrArg (fun X:World=>X.cell? ⟨W.heap.size,3,none⟩) hU).symm.trans ((YI W _ _ _ 3 rfl).trans rfl);clear hU;go_loopw [5] (fun iv wr=>∃k:Nat,k≤n∧iv=.int .i64 (k:Int)∧Hid (YL (fun x=>x.name.toList==s.toList) (p.actions.l.drop k) k=R)∧wr=U) (fun iv _=>n-(intOf iv).toNat)
 case atStart=>exact⟨0,Zw _,rfl,YM,rfl⟩
 case round =>
  obtain⟨k,hk,rfl,hs,rfl⟩:=hrel;by_cases ZC:k<n
  ·obtain⟨a,ha⟩:=Yq p.actions.l k asG
   obtain⟨pa,Yw,hc⟩:=YV.out k a ha;have ZQ:=(P8 (fun x=>x.name.toList==s.toList) p.actions.l k a ha).symm.trans hs.out;have d0:=hc.c0 _ rfl;have a6:=Zf (Y7 k n ZC Yt.out);clear hc ha hs;rw[Yw];by_cases hZ:(a.name.toList==s.toList)=true
   ·have ZP:=Zf (show (k:Int)=R from atD)
    clear ZQ;exact MC
   ·have ZP:=Zf (show YL (fun x=>x.name.toList==s.toList) (p.actions.l.drop (k+1)) (k+1)=R by rw[←ZQ,if_neg hZ])
    exact Kc
  ·exact Kd):P:=h
def alP(h:P:=by
 go_enter func178,ntmps178;go_wp2;generalize hU:W.alloc _=U;have hx:Hid (∃z,U=plus W z):=Zf (hU▸LD W _);have YV:=Zf (show Xa U 5 _ _ _ from atU);have u0:=(congrArg (fun X:World=>X.cell? ⟨W.heap.size,4,none⟩) hU).symm.trans ((YI W _ _ _ 4 rfl).trans rfl);clear hU;go_loopw [5] (fun iv wr=>∃k:Nat,k≤n∧iv=.int .i64 (k:Int)∧Hid (YL (fun x=>x.name.toList==s.toList) (p.tables.l.drop k) k=R)∧wr=U) (fun iv _=>n-(intOf iv).toNat)
 case atStart=>exact⟨0,Zw _,rfl,YM,rfl⟩
 case round =>
  obtain⟨k,hk,rfl,hs,rfl⟩:=hrel;by_cases ZC:k<n
  ·obtain⟨a,ha⟩:=Yq p.tables.l k asG
   obtain⟨pa,Yw,hc⟩:=YV.out k a ha;have ZQ:=(P8 (fun x=>x.name.toList==s.toList) p.tables.l k a ha).symm.trans hs.out;have d0:=hc.c0 _ rfl;have a6:=Zf (Y7 k n ZC Yt.out);clear hc ha hs;rw[Yw];by_cases hZ:(a.name.toList==s.toList)=true
   ·have ZP:=Zf (show (k:Int)=R from atD)
    clear ZQ;exact MC
   ·have ZP:=Zf (show YL (fun x=>x.name.toList==s.toList) (p.tables.l.drop (k+1)) (k+1)=R by rw[←ZQ,if_neg hZ])
    exact Kc
  ·exact Kd):P:=h
def tR(h:P:=by
 simp only[Zs,List.take_zero,Zg,Zh];repeat (go_big_quiet_step (first|(with_reducible exact qh2.out _)|(with_reducible exact qh3.out _)))
 exact zj):P:=h
def alQ(h:P:=by
 refine wpQuiet_nil ?_;rintro _ ⟨y7,rfl⟩;go_wp2;exact sm):P:=h
def I6(h:P:=by
 have qh1:=Zf (ZK ZG YA.out);have ZY:=Zf ZG;clear hW ZG cp ci YA Yo Yv;have hv:=Ws.out;clear Ws;exact Jp):P:=h
def alR(h:P:=by
 go_upto_region 8 with (fail)
 open Z renaming arW→TD in exact TG):P:=h
def alS(h:P:=by
 go_upto_region 13 with (fail)
 open Z renaming arX→TD in exact TG):P:=h
def alT(h:P:=by
 go_upto_region 11 with (fail)
 open Z renaming arL→TD in exact TG):P:=h
def alU(h:P:=by
 go_upto_region 6 with (fail)
 open Z renaming arK→TD in exact TG):P:=h
def tS(h:P:=by
 have hr:=hr.plus y0;have Yp:=Yp.plus y0;obtain⟨V,hV⟩:=ZB (plus w y0);rw[hV]at kK hr Yp ⊢;clear hV;have kK':=Zf kK;have XV:=Zf hr;have Pg:=Zf Yp;have Wr:=Zf hs;exact zk):P:=h
def alW(h:P:=by
 have ZO:=Zf hn;have ZR:=Zf hR;clear kK hr Yp hs hn hR;open Z renaming ah5→NR in exact Mw):P:=h
def alX(h:P:=by
 have SD:=Zf hk;have Yi:=Zf hb;have YM:=Zf h0;have YA:=Zf h1;have Xg:=Zf h2;clear kK hr Yp hs hk hb h0 h1 h2;open Z renaming ah6→NR in exact Mw):P:=h
def DB(h:P:=by
 obtain⟨n,hn⟩:=ZB l.length;have hA:=hA.row.plus y0;have hf:=fun x hx=>((hf x hx).up y0).pure;obtain⟨W,hW⟩:=ZB (plus w y0);exact G4):P:=h
def alY(h:P:=by
 rw[hW]at hA ⊢;simp only[hW]at hf ;rw[hn]at hl hp;have g1:¬(32:Int)<(n:Int):=asB;have g2:(0:Int)<(n:Int):=asB;have g3:¬(8:Int)<deep:=asB;clear hp hd;clear hW;obtain⟨R,hR⟩:=ZB (l.all may);have h0:(l.drop 0).all may=R:=hR;open Z renaming agp→Pl in exact PI):P:=h
def alZ(h:P:=by
 rw[hW]at hA ⊢;simp only[hW]at hf;rw[hn]at hl;clear hW;exact Uz):P:=h
def al0(h:P:=by
 rw[hW]at hA ⊢;exact zy):P:=h
def MA(h:P:=by
 have Rc:=Zf Wh;clear q2 Yp Wh Xc;gi_wp2;refine⟨trivial,rfl,CallsIn.mono (q3.out) ?_⟩;exact NV):P:=h
def al1(h:P:=by
 rintro e w3 (⟨rfl,hJ3,Xi⟩|⟨rfl,hx⟩)
 ·have WY:=Rc.out.trans Xi
  have d4:=TH Yi.out _ _ WY 4 _ rfl;have q4:=Zf (Mb l 7 (a:Int) m UR.out S J Jx (k+1+n+1) w3 (ZR.out.parts t1'.out.tail) hJ3);have RA:=Zf WY;clear q3 Xi WY hJ3;gi_wp2;refine⟨trivial,rfl,CallsIn.mono (q4.out) ?_⟩;rintro e w4 (⟨rfl,hJ4,hk4⟩|⟨rfl,hx⟩)
  ·have Tf:=RA.out.trans hk4
   gi_wp2;go_ret;exact .inl ⟨rfl,auM,(Kq.alloc S W _).trans Tf⟩
  ·exact UF
 ·exact Qc):P:=h
def al2(h:P:=by
 rintro e w3 (⟨rfl,hJ3,Xi⟩|⟨rfl,hx⟩)
 ·have WY:=Rc.out.trans Xi
  have q4:=Zf (Pu l 14 (a:Int) S J Jx (k+1+n+m) w3 (ZR.out.one t2'.out.head hJ3));have RA:=Zf WY;clear q3 Xi WY hJ3;gi_wp2;refine⟨trivial,rfl,CallsIn.mono (q4.out) ?_⟩;rintro e w4 (⟨rfl,hJ4,hk4⟩|⟨rfl,hx⟩)
  ·have Tf:=RA.out.trans hk4
   gi_wp2;go_ret;exact .inl ⟨rfl,auN,(Kq.alloc S W _).trans Tf⟩
  ·exact UF
 ·exact Qc):P:=h
def al3(h:P:=by
 rintro e w3 (⟨rfl,hJ3,Xi⟩|⟨rfl,hx⟩)
 ·have WY:=Rc.out.trans Xi
  gi_wp2;go_ret;exact .inl ⟨rfl,auO,(Kq.alloc S W _).trans WY⟩
 ·exact UF):P:=h
def al4(h:P:=by
 rintro e w3 (⟨rfl,hJ3,Xi⟩|⟨rfl,hx⟩)
 ·have WY:=Rc.out.trans Xi
  have d4:=QO Yi.out _ _ WY 4 _ rfl;have q4:=Zf (Mc l 7 (a:Int) m UR.out S J Jx (k+1+n+1) w3 (ZR.out.parts t1'.out.tail) hJ3);have RA:=Zf WY;clear q3 Xi WY hJ3;gi_wp2;refine⟨trivial,rfl,CallsIn.mono (q4.out) ?_⟩;rintro e w4 (⟨rfl,hJ4,hk4⟩|⟨rfl,hx⟩)
  ·have Tf:=RA.out.trans hk4
   gi_wp2;go_ret;exact .inl ⟨rfl,auM,(Kr.alloc S W _).trans Tf⟩
  ·exact UF
 ·exact Qc):P:=h
def al5(h:P:=by
 rintro e w3 (⟨rfl,hJ3,Xi⟩|⟨rfl,hx⟩)
 ·have WY:=Rc.out.trans Xi
  have q4:=Zf (Pv l 14 (a:Int) S J Jx (k+1+n+m) w3 (ZR.out.one t2'.out.head hJ3));have RA:=Zf WY;clear q3 Xi WY hJ3;gi_wp2;refine⟨trivial,rfl,CallsIn.mono (q4.out) ?_⟩;rintro e w4 (⟨rfl,hJ4,hk4⟩|⟨rfl,hx⟩)
  ·have Tf:=RA.out.trans hk4
   gi_wp2;go_ret;exact .inl ⟨rfl,auN,(Kr.alloc S W _).trans Tf⟩
  ·exact UF
 ·exact Qc):P:=h
def al6(h:P:=by
 rintro e w3 (⟨rfl,hJ3,Xi⟩|⟨rfl,hx⟩)
 ·have WY:=Rc.out.trans Xi
  gi_wp2;go_ret;exact .inl ⟨rfl,auO,(Kr.alloc S W _).trans WY⟩
 ·exact UF):P:=h
def MB(h:P:=by
 have Qm:=Zf Wp;clear q1 hk1 Wp hJ1;gi_wp2;refine⟨trivial,rfl,CallsIn.mono (q2.out) ?_⟩;exact NW):P:=h
def al7(h:P:=by
 rintro e w2 (⟨rfl,Xc,Yp⟩|⟨rfl,hx⟩)
 ·have Wh:=Qm.out.trans Yp
  have q3:=Zf (Pu l 6 (a:Int) S J Jx (k+1+n) w2 (ZR.out.one t1'.out.head Xc));open Z renaming al1→NV in exact MA
 ·exact PK):P:=h
def al8(h:P:=by
 rintro e w2 (⟨rfl,Xc,Yp⟩|⟨rfl,hx⟩)
 ·have Wh:=Qm.out.trans Yp
  have d2:=TH Yi.out _ _ Wh 2 _ rfl;have q3:=Zf (Mb l 13 (a:Int) m UR.out S J Jx (k+1+n) w2 (ZR.out.parts t1'.out.left) Xc);open Z renaming al2→NV in exact MA
 ·exact PK):P:=h
def al9(h:P:=by
 rintro e w2 (⟨rfl,Xc,Yp⟩|⟨rfl,hx⟩)
 ·have Wh:=Qm.out.trans Yp
  have d2:=TH Yi.out _ _ Wh 2 _ rfl;have q3:=Zf (hbl'.out (k+1+n) w2 ((Kq.alloc S W _).trans Wh) t1'.out Xc);open Z renaming al3→NV in exact MA
 ·exact Qc):P:=h
def ama(h:P:=by
 rintro e w2 (⟨rfl,Xc,Yp⟩|⟨rfl,hx⟩)
 ·have Wh:=Qm.out.trans Yp
  have q3:=Zf (Pv l 6 (a:Int) S J Jx (k+1+n) w2 (ZR.out.one t1'.out.head Xc));open Z renaming al4→NV in exact MA
 ·exact PK):P:=h
def amb(h:P:=by
 rintro e w2 (⟨rfl,Xc,Yp⟩|⟨rfl,hx⟩)
 ·have Wh:=Qm.out.trans Yp
  have d2:=QO Yi.out _ _ Wh 2 _ rfl;have q3:=Zf (Mc l 13 (a:Int) m UR.out S J Jx (k+1+n) w2 (ZR.out.parts t1'.out.left) Xc);open Z renaming al5→NV in exact MA
 ·exact PK):P:=h
def amc(h:P:=by
 rintro e w2 (⟨rfl,Xc,Yp⟩|⟨rfl,hx⟩)
 ·have Wh:=Qm.out.trans Yp
  have d2:=QO Yi.out _ _ Wh 2 _ rfl;have q3:=Zf (hbl'.out (k+1+n) w2 ((Kr.alloc S W _).trans Wh) t1'.out Xc);open Z renaming al6→NV in exact MA
 ·exact Qc):P:=h
def I7(h:P:=by
 obtain⟨c0,c1p,c1n,c1c,c2,c3p,c3n,c3c,c4p,c4n,c4c,ea⟩:=YY.out a;exact Jr):P:=h
def I8(h:P:=by
 obtain⟨c0,c1p,c1n,c1c,c2p,c2n,c2c,c3,c4p,c4n,c4c,ea⟩:=YY.out a;exact Jt):P:=h
def DC(h:P:=by
 refine Wj 9 asC asC ?_;simp only[Zs,List.take_zero,Zg,Zh];exact G7):P:=h
def amd(h:P:=by
 repeat (go_big_quiet_step (fail))
 refine wpQuiet_nil ?_;rintro _ ⟨y3,rfl⟩;by_cases Xt:r2=0
 ·subst Xt
  go_wp2_with fail;refine (l2.out X2 y3).mono ?_;rintro r w' ⟨rfl,x2,rfl⟩;rw[ZD];rw[show Yl 0 (.tuple #[])=.returned (.tuple #[]) from rfl];go_wp2;refine⟨⟨k+1,ZC,congrArg (Zz .i64) a6.out,QU.out _,fun j y hj hy=>?_⟩,Y9 k n ZC a6.out⟩;by_cases UQ:j<k
  ·exact Tv.out j y UQ hy
  ·obtain rfl:j=k:=by omega
   rw[Vf.out]at hy;exact (Option.some.inj hy).symm
 ·go_wp2_with fail
  refine (l2.out X2 y3).mono ?_;rintro r w' ⟨rfl,x2,rfl⟩;rw[ZD];rw[show Yl r2 (.tuple #[])=YJ r2 by rw[Yl,if_neg Xt]];go_wp2;exact⟨rfl,by rw[Qk _ k r2 Vf.out Tv.out Xt,Yl,if_neg Xt],QU.out _⟩):P:=h
def ame(h:P:=by
 repeat (go_big_quiet_step (first|(with_reducible exact qm.out _)))
 refine wpQuiet_nil ?_;rintro _ ⟨y3,rfl⟩;by_cases Xt:L2=0
 ·subst Xt
  go_wp2;go_roundw
  case rel=>exact⟨k+1,ZC,congrArg (Zz .i64) a6.out,aup,Zf (fun j y hj hy=>by
   by_cases UQ:j<k
   ·exact hJ.out j y UQ hy
   ·obtain rfl:j=k:=by omega
    rw[Vf.out]at hy;exact (Option.some.inj hy).symm)⟩
  case measure=>exact Y9 k n ZC a6.out
 ·have T0:(L2 !=0)=true:=by simpa using Xt
  go_wp2;go_ret;exact⟨congrArg (fun z=>Zd (Zz .i64 z)) ((Qk _ k L2 Vf.out hJ.out asF).symm.trans ZR.out),aux⟩):P:=h
def amf(h:P:=by
 repeat (go_big_quiet_step (first|(with_reducible exact qv.out _)))
 refine wpQuiet_nil ?_;rintro _ ⟨y2,rfl⟩;exact AC):P:=h
def tV(h:P:=by
 rw[hv];have hm:=Zo hx;obtain⟨pa,hp,hc⟩:=ZF.metas.row a x hx;have hl:=(Zi.1 hx).1;have hc1:Yg w (pa.add (a*2)) [.string x.name,.int .i64 x.w]:=hc;exact zm):P:=h
def amg(h:P:=by
 have h1:=JQ p w ZF hz x.name;have h2:=Px (Xv p.metas.l x.name) (a:Int) w;rw[hp]at h1 ⊢;exact aa3 _ _ _ _ _ _ _ _ _ _ _ _ _ _ _ _ _ _ _ _ _ _ _ _ _ _ _ _ _ _ _ _ _ _ _ _ _ _ _ _ _ _ _ _ _ _ (a) (hl) (hc1) (h1) (h2)):P:=h
def amh(h:P:=by
 have h1:=LH p w ZF hz x.name;rw[hp]at h1 ⊢;exact gR _ _ _ _ _ _ _ _ _ _ _ _ _ _ _ _ _ _ _ _ _ _ _ _ _ _ _ _ _ _ _ _ _ _ _ _ _ _ _ _ _ _ _ _ _ (mG _ _ _ _ _ _ _ _ _ _ _ _ _ _ _ _ _ _ _ _ _ _ _ _ _ _ _ _ _ _ _ _ _ _ _ _ _ _ _ _ _ _ _ _ _ _ (a) (hl) (hc1) (h1) (rfl))):P:=h
def tX(h:P:=by
 replace C0:=ZS C0 y0;replace C1:=ZS C1 y0;replace C2:=ZS C2 y0;replace C3:=ZS C3 y0;replace C4:=ZS C4 y0;replace C5:=ZS C5 y0;replace C6:=ZS C6 y0;exact zo):P:=h
def ami(h:P:=by
 have hr:=hr.plus y0;have kt:=kt.up y0;obtain⟨V,hV⟩:=ZB (plus w y0);rw[hV]at C0 C1 C2 C3 C4 C5 C6 hr kt ⊢;clear hV;have hw:=fun W=>Mk t W;have hb:=(Zi.1 hk).1;obtain⟨pa,rfl,hck⟩:=hr b k hk;have e0:=hck.c0 _ rfl;have e1:=hck.cs 0 _ rfl;have e2:=hck.cs 1 _ rfl;have e3:=hck.cs 2 _ rfl;have e4:=hck.cs 3 _ rfl;have e5:=hck.cs 4 _ rfl;have e6:=hck.cs 5 _ rfl;have e7:=hck.cs 6 _ rfl;have e8:=hck.cs 7 _ rfl;have e9:=hck.cs 8 _ rfl;obtain⟨⟨op,⟨lw,lh,ll⟩,hd,nm,eh,el,ep,ec,eargs⟩,kd⟩:=k;simp only[Ex.val,Ex.cells,Ex.op,Ex.lit,Ex.head,Ex.name,Ex.hi,Ex.lo,Ex.p,Ex.args,Ex.cap]at kt e0 e1 e2 e3 e4 e5 e6 e7 e8 e9 ⊢;obtain⟨M,hM⟩:=ZB eargs.length;rw[hM]at kt e8;obtain⟨n,hnn⟩:=ZB l.length;rw[hnn]at hn hlc hb ⊢;obtain⟨tw,tt,tf⟩:=t;simp only[Ty.v]at kt hw;have kt':=Zf (Tt kt);have Xr:=Zf hw;have XV:=Zf hr;have ZO:=Zf hn;have TA:=Zf hnn;have hlc':=Zf hlc;have hM':=Zf hM;clear kt hw hr hn hnn hk hck hM;replace C0:∀y,(plus V y).cell? ⟨cb,0,none⟩=some (.slice p0 n0 Ym):=fun y=>ZS C0 y;replace C1:∀y,(plus V y).cell? ⟨cb,1,none⟩=some (.slice p1 n1 ZL):=fun y=>ZS C1 y;replace C2:∀y,(plus V y).cell? ⟨cb,2,none⟩=some (.slice p2 n2 ZT):=fun y=>ZS C2 y;replace C3:∀y,(plus V y).cell? ⟨cb,3,none⟩=some (.slice p3 n3 Ys):=fun y=>ZS C3 y;replace C4:∀y,(plus V y).cell? ⟨cb,4,none⟩=some (.slice p4 n4 YQ):=fun y=>ZS C4 y;replace C5:∀y,(plus V y).cell? ⟨cb,5,none⟩=some (.slice p5 n5 WF):=fun y=>ZS C5 y;replace C6:∀y,(plus V y).cell? ⟨cb,6,none⟩=some (.slice p6 n6 Vz):=fun y=>ZS C6 y;replace e0:=fun y=>ZS e0 y;replace e1:=fun y=>ZS e1 y;replace e2:=fun y=>ZS e2 y;replace e3:=fun y=>ZS e3 y;replace e4:=fun y=>ZS e4 y;replace e5:=fun y=>ZS e5 y;replace e6:=fun y=>ZS e6 y;replace e7:=fun y=>ZS e7 y;replace e8:=fun y=>ZS e8 y;replace e9:=fun y=>ZS e9 y;have Sg:¬((b:Int)<0):=asB;have hbn:(b:Int)<(n:Int):=asB;by_cases r0:R=0
 ·subst r0
  simp only[if_true];by_cases q0:Yz ⟨tw,tt,tf⟩=0
  ·rw[if_pos q0]at Xr
   rw[if_pos q0];by_cases kk:kd=2
   ·subst kk
    rw[if_pos rfl];obtain⟨RR,hRR⟩:=ZB ((if ((l.take b).all fun y=>decide (y.kind≠2))=true then (0:Int) else 8):Int);rw[hRR];have hRR':=Zf hRR;clear hRR;open Z renaming aqC→Fa in exact D5
   ·rw[if_neg kk]
    have kk2:(kd !=2)=true:=by simpa using kk
    open Z renaming aqD→Fa in exact D5
  ·rw[if_neg q0]at Xr
   rw[if_neg q0,VH q0];open Z renaming aqE→Fa in exact D5
 ·rw[if_neg r0,if_neg r0,VH r0]
  rw[VH r0]at kt';clear Xr;open Z renaming alf→A9 in exact tG):P:=h
def amj(h:P:=by
 obtain⟨V,hV⟩:=ZB (plus w y0);rw[hV]at kc C0 C1 C2 C3 C4 C5 C6 ⊢;clear hV;have kc':=Zf kc;clear kc;go_enter func21,ntmps21;go_upto_region 7 with (fail)
 open Z renaming aq3→Jw in exact Hv):P:=h
def tY(h:P:=by
 obtain⟨⟨p0,Ym,l0⟩,⟨p1,ZL,l1⟩,⟨p2,ZT,l2⟩,⟨p3,Ys,l3⟩,⟨p4,YQ,l4⟩,⟨p5,WF,l5⟩,⟨p6,Vz,l6⟩⟩:=p;obtain⟨op,⟨lw,lh,ll⟩,hd,nm,eh,el,ep,ec,eargs⟩:=e;exact zq):P:=h
def amk(h:P:=by
 simp only[Ex.val,Ex.cells,Ex.op,Ex.lit,Ex.head,Ex.name,Ex.hi,Ex.lo,Ex.p,Ex.args,Ex.cap]at kch kt ⊢;obtain⟨M,hM⟩:=ZB eargs.length;open Z renaming aks→AU in exact uY):P:=h
def aml(h:P:=by
 by_cases r0:R=0
 ·subst r0
  rw[if_pos rfl];exact kI _ _ _ _ _ _ _ _ _ _ _ _ _ _ _ _ _ _ _ _ _ _ _ _ _ _ _ _ _ _ _ _ _ k t.w t.tr t.fr _ w kt (kg (hf rfl).2)
 ·rw[if_neg r0,VH r0]
  rw[VH r0]at kt;exact kH _ _ _ _ _ _ _ _ _ _ _ _ _ _ _ _ _ _ _ _ _ _ _ _ _ _ _ _ _ _ _ _ _ k R w kt):P:=h
def asB(h:P:=by omega):P:=h
def asC(h:P:=by kernel_rfl):P:=h
def asD(h:P:=by simp):P:=h
def asE(h:P:=by decide):P:=h
def asF(h:P:=by assumption):P:=h
def asG(h:P:=by rw[ZO.out];exact ZC):P:=h
def asH(h:P:=by rfl):P:=h
def asI(h:P:=by rw[ea];rfl):P:=h
def asJ(h:P:=by simpa using q1):P:=h
def asK(h:P:=by rw[ZY.out,ZD];exact⟨_,rfl⟩):P:=h
def asL(h:P:=by simpa using q2):P:=h
def asM(h:P:=by simp;omega):P:=h
def asN(h:P:=by simpa using h):P:=h
def asO(h:P:=by rw[ZN.out,ZD];exact⟨_,rfl⟩):P:=h
def asP(h:P:=by simpa using q3):P:=h
def asQ(h:P:=by unfold Sl.size at *;omega):P:=h
def asR(h:P:=by have:=Yi.out;(try simp only[Zj,Zk,Zl,Ui]);omega):P:=h
def asS(h:P:=by simp only at h;omega):P:=h
def asT(h:P:=by cases h):P:=h
def asU(h:P:=by rw[ZN.out,ZD,ZD];exact⟨_,rfl⟩):P:=h
def asV(h:P:=by rw[ZO.out];exact Zt _):P:=h
def asW(h:P:=by simpa using q):P:=h
def asX(h:P:=by simp only;omega):P:=h
def asY(h:P:=by simp[results,Tryz.results183,go_sem,g0,g1,g2]):P:=h
def asZ(h:P:=by simp only[YU,WG,hx];rfl):P:=h
def as0(h:P:=by rw[R5]):P:=h
def as1(h:P:=by rw[hl];exact List.mem_cons_self ..):P:=h
def as2(h:P:=by intro e;injection e with e1 _;omega):P:=h
def as3(h:P:=by simp[Yu,Wm,hx]):P:=h
def as4(h:P:=by simpa using h0):P:=h
def as5(h:P:=by injection hv with h1 h2;exact⟨h1.symm,h2.symm⟩):P:=h
def as6(h:P:=by obtain⟨z,h⟩:=ZG.out;rw[h];simp only[ZD];exact⟨_,rfl⟩):P:=h
def as7(h:P:=by rw[eb];rfl):P:=h
def as8(h:P:=by unfold Y1;omega):P:=h
def as9(h:P:=by simpa using hb):P:=h
def ata(h:P:=by simp only[YU,WG,hx,hy];rfl):P:=h
def atb(h:P:=by rw[Sj.out,ZD];exact⟨_,rfl⟩):P:=h
def atc(h:P:=by simp[Act.eval]):P:=h
def atd(h:P:=by simpa using ht):P:=h
def ate(h:P:=by simpa using e):P:=h
def atf(h:P:=by simpa using q4):P:=h
def atg(h:P:=by unfold Hr.sz;omega):P:=h
def ath(h:P:=by unfold Ac.sz;omega):P:=h
def ati(h:P:=by rw[ZY.out,ZD,ZD];exact⟨_,rfl⟩):P:=h
def atj(h:P:=by simp[results,Tryz.results182,go_sem,g0,g1,g2]):P:=h
def atk(h:P:=by simpa [cS]using hf 0 _ rfl):P:=h
def atl(h:P:=by rw[q0];simp[Rows.uptoBulk]):P:=h
def atm(h:P:=by unfold Fd.sz;omega):P:=h
def atn(h:P:=by simpa using q5):P:=h
def ato(h:P:=by simpa using o3):P:=h
def atp(h:P:=by simpa using o6):P:=h
def atq(h:P:=by simp <;> omega):P:=h
def atr(h:P:=by simp[Yu,Wm,hx,hy]):P:=h
def ats(h:P:=by simpa using hy):P:=h
def att(h:P:=by rw[hz.out,ZD];exact⟨_,rfl⟩):P:=h
def atu(h:P:=by simpa [YD]using Xc.out):P:=h
def atv(h:P:=by have h1:=Yi.out;omega):P:=h
def atw(h:P:=by obtain⟨y,h⟩:=XJ;rw[h];exact ZF.plus y):P:=h
def atx(h:P:=by rw[W8];rfl):P:=h
def aty(h:P:=by rw[ZG.out,ZD];exact⟨_,rfl⟩):P:=h
def atz(h:P:=by rw[hz];exact YV.out.plus (fun _ a=>a) z):P:=h
def atA(h:P:=by injection YC with h1 h2;exact⟨h1,h2⟩):P:=h
def atB(h:P:=by rw[hz.out,ZD]):P:=h
def atC(h:P:=by rw[←XP,List.append_assoc];exact hT.out):P:=h
def atD(h:P:=by rw[←ZQ,if_pos hZ]):P:=h
def atE(h:P:=by rw[hz.out,ZD,ZD];exact⟨_,rfl⟩):P:=h
def atF(h:P:=by simp[results,Tryz.results181,go_sem,g0,g1,g2]):P:=h
def atG(h:P:=by have:=ZO.out;omega):P:=h
def atH(h:P:=by simpa [cS]using hf 2 _ rfl):P:=h
def atI(h:P:=by rw[q2];simp[Rows.uptoBulk]):P:=h
def atJ(h:P:=by have:=Yi.out;omega):P:=h
def atK(h:P:=by rw[←Xh.out];simp[Yz]):P:=h
def atL(h:P:=by simp[results,Tryz.results51,go_sem,g0,g1,g2]):P:=h
def atM(h:P:=by rw[←Xh.out];simp):P:=h
def atN(h:P:=by simpa [YP,o]using hb):P:=h
def atO(h:P:=by congr 1;have:=hi'.out;omega):P:=h
def atP(h:P:=by injection e with _ e2;omega):P:=h
def atQ(h:P:=by repeat (first|exact Kz _|with_reducible apply MU|with_reducible apply Kx|with_reducible apply Ky)):P:=h
def atR(h:P:=by rw[TA.out];exact ZC):P:=h
def atS(h:P:=by rw[ZE,ZD];exact ZS C2 _):P:=h
def atT(h:P:=by obtain⟨_,_,_,_,_,_⟩:=U4 hz;assumption):P:=h
def atU(h:P:=by obtain⟨z,h⟩:=hx.out;rw[h];exact YV.out z):P:=h
def atV(h:P:=by rw[bne_iff_ne];omega):P:=h
def atW(h:P:=by simp[q0,q1,q2,q3]):P:=h
def atX(h:P:=by rw[Qs.out,ZD];exact⟨_,rfl⟩):P:=h
def atY(h:P:=by simp[results,Tryz.results115,go_sem,v0,v1,v2]):P:=h
def atZ(h:P:=by rw[ZE,ZD];exact ZS C4 _):P:=h
def at0(h:P:=by have:=run_endLoop (P:=P) hl (by rw[hrec];simp);rw[hrec]at this;exact this):P:=h
def at1(h:P:=by rw[UU.out,ZD];exact⟨_,rfl⟩):P:=h
def at2(h:P:=by rw[ZO.out];exact q2):P:=h
def at3(h:P:=by simp[results,Tryz.results47,go_sem,g0,g1,g2]):P:=h
def at4(h:P:=by unfold Ta.sz Sl.size at *;omega):P:=h
def at5(h:P:=by unfold Sa.sz Sl.size at *;omega):P:=h
def at6(h:P:=by have:=Hlt.out;omega):P:=h
def at7(h:P:=by simp at hu;subst hu;rfl):P:=h
def at8(h:P:=by have:=ZO.out;simp only[maxLen];omega):P:=h
def at9(h:P:=by have:=XM Ex.wt Ex.wt_pos args;omega):P:=h
def aua(h:P:=by rw[ZN.out,ZD];exact hc.plus _):P:=h
def aub(h:P:=by rw[←Uq.out,ZD];exact⟨_,rfl⟩):P:=h
def auc(h:P:=by rw[hl];exact List.mem_cons_of_mem _ (List.mem_cons_self ..)):P:=h
def aud(h:P:=by simp[results,Tryz.results50,go_sem,g0,g1,g2]):P:=h
def aue(h:P:=by rw[←Wc.out];simp[WC,Yl]):P:=h
def auf(h:P:=by unfold TM;rw[Int.toNat_natCast,hx];exact Rz hy):P:=h
def aug(h:P:=by obtain⟨z,rfl⟩:=h;exact⟨_,ZD _ _ _⟩):P:=h
def auh(h:P:=by have:=Yt.out;unfold maxLen;omega):P:=h
def aui(h:P:=by rw[List.getElem?_map,hx];rfl):P:=h
def auj(h:P:=by unfold Uh;cases (s.toList==[]) <;> simp):P:=h
def auk(h:P:=by simp[results,Tryz.results28,go_sem,g0,g1,g2]):P:=h
def aul(h:P:=by rw[TC,←Nat.add_assoc];exact Xc):P:=h
def aum(h:P:=by rw[←U9 may l k a ha];exact hs.out):P:=h
def aun(h:P:=by have h3:=YW Ta.sz p.tables.l x hm;have h4:=XM Y1 (fun y=>by unfold Y1;omega) x.actions.l;unfold Pr.sz Ta.sz Sl.size at *;omega):P:=h
def auo(h:P:=by unfold Ac.sz Sl.size at *;omega):P:=h
def aup(h:P:=by obtain⟨z,h⟩:=hE.out;rw[h];simp only[ZD];exact⟨_,rfl⟩):P:=h
def auq(h:P:=by have:=(Array.getElem?_eq_some_iff.1 ho).1;simp at this;omega):P:=h
def aur(h:P:=by rw[←Yi.out];unfold YK;rw[decide_eq_false (by omega)];simp):P:=h
def aus(h:P:=by unfold XS;rw[if_neg o1,if_neg o2,if_neg o3,if_neg o4,if_neg o6]):P:=h
def aut(h:P:=by obtain⟨z,rfl⟩:=h;exact⟨⟨z.blocks,z.draws+1⟩,rfl⟩):P:=h
def auu(h:P:=by obtain⟨y,hy⟩:=Yy ((Zb wr.heap.size wr).alloc (Zt _) o);rw[hy];have q:=(Sf.out x ZV).plus z;rw[←hz]at q;exact q.plus y):P:=h
def auv(h:P:=by have:=XM St.sz (fun s=>by have:=St.sz_eq s;omega) l;omega):P:=h
def auw(h:P:=by obtain⟨z,hz⟩:=ZG.out;rw[hz];simp only[ZD];exact⟨_,rfl⟩):P:=h
def aux(h:P:=by obtain⟨z,h⟩:=hE.out;rw[h,hz.out];simp only[ZD];exact⟨_,rfl⟩):P:=h
def auy(h:P:=by first|(rw[ZN.out,ZD];exact⟨_,rfl⟩)|(obtain⟨x',VY⟩:=Qy W _ _;rw[VY,ZN.out,ZD];exact⟨_,rfl⟩)):P:=h
def auz(h:P:=by repeat (first|exact XE.out|assumption|apply Xo.drew|apply Xo.alloc|apply Xo.plus|refine Xo.set ?_ _ _ ?_|exact Uy.out|exact Nat.le_trans Uy.out (XZ W0.drew _)|exact Nat.le_trans Uy.out (Nat.le_trans (XZ W0.drew _) (Nat.le_succ _)))):P:=h
def auA(h:P:=by repeat (first|exact XE.out|assumption|apply Xo.drew|apply Xo.alloc|apply Xo.plus)):P:=h
def auB(h:P:=by have h3:=YW Ta.sz p.tables.l x hm;have h4:=YW Ke.sz x.keys.l y US;unfold Pr.sz Ta.sz Sl.size Ke.sz at *;omega):P:=h
def auC(h:P:=by have h3:=YW Ta.sz p.tables.l x hm;unfold Pr.sz Ta.sz Sl.size at *;omega):P:=h
def auD(h:P:=by have:=Xp.at _ _ (fun a y=>H0 a y) p.headers.l 0 0 i x s1 hx;rw[Zv i]at this;exact this):P:=h
def auE(h:P:=by have:=Xp.at (fun a (_:Fd)=>[It.num 3 a 0]) (fun _=>1) (fun _ _=>rfl) p.metas.l _ 0 i x s2 hx;rw[Zv i]at this;exact this.head):P:=h
def auF(h:P:=by have:=Xp.at (fun a (_:ByteArray)=>[It.num 15 a 0]) (fun _=>1) (fun _ _=>rfl) p.emit.l _ 0 i x s7 hx;rw[Zv i]at this;exact this.head):P:=h
def auG(h:P:=by have:=Xp.at _ _ (fun a y=>HY a y) p.actions.l _ 0 i x s4 hx;rw[Zv i]at this;exact this):P:=h
def auH(h:P:=by have:=Xp.at _ _ (fun a y=>H4 a y) p.tables.l _ 0 i x s5 hx;rw[Zv i]at this;exact this):P:=h
def auI(h:P:=by have:=Xp.at _ _ (fun a y=>H1 a y) p.states.l _ 0 i x s3 hx;rw[Zv i]at this;exact this):P:=h
def auJ(h:P:=by obtain⟨zz,hzz⟩:=Uf.out;rw[hzz,ZD,ZD];exact⟨_,rfl⟩):P:=h
def auK(h:P:=by have:=hp j v hj;rw[show (⟨pb,0,none⟩:Addr).add j=⟨pb,j,none⟩ by simp[Addr.add];exact fun h=>h.symm]at this;exact this):P:=h
def auL(h:P:=by have h1:=SB.out.1;have h2:=a3h.out;have h3:=b0h.out;have h4:=Nz.out;omega):P:=h
def auM(h:P:=by rw[show k+(n+m+2)=k+1+n+1+m by omega];exact hJ4):P:=h
def auN(h:P:=by rw[show k+(n+m+2)=k+1+n+m+1 by omega];exact hJ4):P:=h
def auO(h:P:=by rw[show k+(n+ys.length+1)=k+1+n+ys.length by omega];exact hJ3):P:=h
end Go.Proofs.YtknmeggfokpbjaaGreat.Z
