/-
  WHAT IS PROVED HERE: nothing: pieces of proofs that stand more than once, as default proofs of a proposition that is its own premise.
-/
import Derived.Below
import Derived.BigQuiet
import Derived.BigRegion
import Derived.Carry
import Derived.ChangeSame
import Derived.Deep.AppendLies
import Derived.Deep.CutRange
import Derived.Deep.Fields
import Derived.Deep.MidRow
import Derived.Deep.RegionHeld3
import Derived.Deep.RegionLaw
import Derived.Deep.RegionWith
import Derived.Deep.Slices
import Derived.JoinedCond
import Derived.Laws.BitsAllLaws
import Derived.Laws.EntriesVeiled
import Derived.Laws.MakeOwn
import Derived.Laws.OwnMore
import Derived.Laws.Rows
import Derived.Lib.Hide
import Derived.Lib.IndexBytes
import Derived.Lib.Strings
import Derived.LoopIn
import Derived.LoopN
import Derived.LoopNIn
import Derived.MapKept
import Derived.OpenShut
import Derived.OrdersHeld
import Derived.OwnWalk
import Derived.OwnWalkIn
import Derived.ProofKit
import Derived.RangeFuncBound
import Derived.RangeFuncCalls
import Derived.RangeFuncLeaves
import Derived.RangeFuncNested
import Derived.Recover
import Derived.RegionDies
import Derived.Shelf.Abstract
import Derived.Shelf.Spec.BitsCarry
import Derived.StillTail
import Derived.TacticsInMore
import Derived.WalkKit
import Derived.WalkLawsBesides
import Derived.WalkSpells
import Derived.Test.YtknmeggfokpbjaaGreatRows
set_option maxRecDepth 100000
set_option maxHeartbeats 8000000
set_option linter.all false
namespace Go.Proofs.YtknmeggfokpbjaaGreat.Z
open Go.RowKit
variable {P:Prop}
def YH(h:P:=by
 have:=M7.out;have:=Yi.out;rw[Wv _ asB,a3];simp):P:=h
def Xt(h:P:=by
 clear a3 a4 hs hc;go_wp2;go_roundw
 case rel=>exact⟨k+1,ZC,congrArg (Zz .i64) a6,congrArg (Zz .i64) a7,trivial⟩
 case measure=>exact Y9 k n ZC a6):P:=h
def T0(h:P:=by
 have ZR:=Zf hR;clear hR;go_wp2;go_ret;exact⟨congrArg (fun z=>Zd (Zz .i64 z)) ZR.out,_,Uq.out.symm⟩):P:=h
def Ul(h:P:=by
 go_ret;exact⟨rfl,asO⟩):P:=h
def Kk(h:P:=by
 go_wp2;exact Ul):P:=h
def O9(h:P:=by
 clear h;go_enter func203,ntmps203;go_wp2_with fail;go_ret;exact⟨congrArg (fun z=>Zd (Zy z)) hF.out,FG _ _ _ _⟩):P:=h
def D7(h:P:=by
 have hF:=Zf (show false=((op==op&&(lw==lw&&(lh==lh&&ll==ll))&&hd.toList==XU.toList&&nm.toList==WW.toList&&eh==eh2&&el==el2)&&s) by simp[YN]);exact O9):P:=h
def Cb(h:P:=by
 have:=h ⟨#[],V.drawn⟩;rwa [Yk]at this):P:=h
def Kn(h:P:=by
 have q1':=Zf q1;have a6:=Zf (Y7 k n ZC Yt.out);clear q1 hZ hc ha hs ea;cases Z with
 | false =>
  have ZP:=Zf (show YL may (l.drop (k+1)) (k+1)=R by rw[←ZQ,if_neg asE]);clear ZQ;go_wp2_with (refine Pw q1'.out ?_;rintro e w' ⟨rfl,x,rfl⟩);go_roundw
  case rel=>exact⟨k+1,ZC,congrArg (Zz .i64) a6.out,ZP,x,rfl⟩
  case measure=>exact Y9 k n ZC a6.out
 | true =>
  have ZP:=Zf (show (k:Int)=R by rw[←ZQ,if_pos rfl]);clear ZQ;go_wp2_with (refine Pw q1'.out ?_;rintro e w' ⟨rfl,x,rfl⟩);go_ret;exact⟨congrArg (fun z=>Zd (Zz .i64 z)) ZP.out,x,rfl⟩):P:=h
def xT(h:P:=by
 rw[ea]at q1;have d0:=fun y=>(hc.plus y).c0 _ asI;have d1:=fun y=>(hc.plus y).cs 0 _ asI;exact Kn):P:=h
def OU(h:P:=by
 obtain rfl:k=n:=asB;have ZP:=Zf (show (-1:Int)=R by
  rw[←hs.out,List.drop_of_length_le asV];rfl)
 clear hs ZC hk;go_wp2;go_ret;exact⟨congrArg (fun z=>Zd (Zz .i64 z)) ZP.out,y,rfl⟩):P:=h
def wK(h:P:=by
 rw[ea]at q1;open Z renaming Kn→zB in exact pM):P:=h
def LW(h:P:=by
 go_wp2;go_ret;exact⟨rfl,Yy ((Zb _ _).alloc (Zt _) _)⟩):P:=h
def EV(h:P:=by
 go_wp2;go_ret;exact⟨rfl,_,(Yk _).symm⟩):P:=h
def Q4(h:P:=by
 go_wp2_with fail;go_ret;exact⟨congrArg (fun z=>Zd (Zy z)) hF.out,MR _ _ _⟩):P:=h
def PJ(h:P:=by
 clear h8;go_enter func217,ntmps217;exact Q4):P:=h
def XO(h:P:=by
 go_ret;exact⟨congrArg (fun z=>Zd (Zy z)) hF.out,asO⟩):P:=h
def Dk(h:P:=by
 rintro r w' ⟨rfl,x1,rfl⟩;go_wp2_with fail;exact XO):P:=h
def tC(h:P:=by
 have h8:=Zf h8;go_enter func217,ntmps217;go_wp2_with fail;obtain⟨W,yy,hW,⟨z,hz⟩,cb0,cb1⟩:=Xu V _ _ 45 45;open Z renaming aqO→QW in exact Q5):P:=h
def UG(h:P:=by
 go_wp2;go_ret;exact⟨congrArg (fun z=>Zd (Zy z)) hF.out,_,(Yk W).symm⟩):P:=h
def si(h:P:=by
 clear hs ZC hk;go_wp2;go_ret;exact⟨congrArg (fun z=>Zd (Zy z)) ZP.out,y,rfl⟩):P:=h
def sA(h:P:=by
 go_wp2_with (go_at_call 14;refine (q1'.out _).mono ?_;rintro r w' ⟨rfl,x,rfl⟩);go_roundw
 case rel=>exact⟨j+1,Tz,congrArg (Zz .i64) r6.out,congrArg (Zz .i64) r7.out,x,rfl⟩
 case measure=>exact Y9 j ny Tz r6.out):P:=h
def sJ(h:P:=by
 rintro r w' ⟨rfl,x,rfl⟩;exact Kk):P:=h
def SY(h:P:=by
 go_ret;exact⟨rfl,aty⟩):P:=h
def rl(h:P:=by
 go_ret2;exact⟨by rw[←Wd.out] <;> rfl,aty⟩):P:=h
def rr(h:P:=by
 have Wd:=Zf hR;clear hR ZR hc;go_wp2;exact rl):P:=h
def PM(h:P:=by
 go_wp2_with (first|(go_at_call 149;with_reducible refine (hc.out _).mono ?_;rintro r w' ⟨rfl,x,rfl⟩));exact rl):P:=h
def rI(h:P:=by
 go_enter func82,ntmps82;exact EV):P:=h
def rQ(h:P:=by
 go_enter func86,ntmps86;exact EV):P:=h
def DM(h:P:=by
 go_ret;exact⟨congrArg (fun z=>Zd (Zz .i64 z)) e.out,aty⟩):P:=h
def qe(h:P:=by
 go_wp2;exact DM):P:=h
def Hl(h:P:=by
 clear ZR Wi XV hz YV;exact qe):P:=h
def qy(h:P:=by
 go_wp2_with (first|(go_at_call 148;with_reducible refine (qc.out _).mono ?_;rintro r w' ⟨rfl,x,rfl⟩));exact DM):P:=h
def qH(h:P:=by
 have e:=Zf (show (-1:Int)=R by
  rw[←ZR.out];unfold X5;rw[if_neg asB,Int.toNat_natCast,YV.out];simp only[List.getElem?_eq_none (show al.length≤k by rw[ZO.out];omega)])
 exact Hl):P:=h
def qS(h:P:=by
 have e:=Zf (show (-1:Int)=R by
  rw[←ZR.out];unfold WN;rw[if_neg asB,Int.toNat_natCast,YV.out];simp only[List.getElem?_eq_none (show al.length≤k by rw[ZO.out];omega)])
 exact Hl):P:=h
def Ho(h:P:=by
 go_ret;exact⟨congrArg (fun z=>Zd (Zy z)) Wd.out,aty⟩):P:=h
def pm(h:P:=by
 go_wp2;exact Ho):P:=h
def pn(h:P:=by
 go_wp2;all_goals
  go_ret;refine⟨?_,rfl⟩;show Zd (.bool _)=Zd (.bool _)
  refine congrArg (fun x=>Zd (.bool x)) ?_;rw[←Yi.out];unfold Vy;rw[Bool.eq_iff_iff];simp;omega):P:=h
def po(h:P:=by
 go_enter func65,ntmps65;go_wp2;go_ret;exact⟨rfl,Vn.out⟩):P:=h
def pp(h:P:=by
 go_wp2;obtain⟨W,hW,hB,hs,ca,fa⟩:=WS w _ 40;rw[←hW];have ca0:=ca 0 (some (.int .u64 (hi n))) rfl;have ca1:=ca 1 (some (.int .u64 (lo n))) rfl;clear hW fa ca;refine EG asC asC ?_;repeat (go_big_quiet_step (exact S.out.at _ _))
 refine wpQuiet_nil ?_;rintro _ ⟨y,rfl⟩;go_wp2;go_ret;exact⟨rfl,Yy (hB.trans ((Xl W y).mono hB.size))⟩):P:=h
def MD(h:P:=by
 go_wp2_with fail;go_ret;exact⟨congrArg (fun z=>Zd (Zy z)) hF.out,oS _⟩):P:=h
def DX(h:P:=by
 clear hR;go_enter func131,ntmps131;exact MD):P:=h
def pq(h:P:=by
 refine (q0c.out _).mono ?_;exact Dk):P:=h
def pr(h:P:=by
 have ZN:=Zf hz;clear hW hz cb0;exact pq):P:=h
def Hp(h:P:=by
 have q0c:=Zf (ZK hz h0.out);exact pr):P:=h
def pt(h:P:=by
 rw[hW];have c0_0:=cb0 0 _ rfl;have c0_1:=cb0 1 _ rfl;have c0_2:=cb0 2 _ rfl;exact Hp):P:=h
def DY(h:P:=by
 go_wp2_with fail;obtain⟨W,yy,hW,⟨z,hz⟩,cb0⟩:=YO V _ 42;exact pt):P:=h
def pw(h:P:=by
 clear hR;have h0:=Zf h0;have h1:=Zf h1;go_enter func136,ntmps136;go_wp2_with fail;obtain⟨W,yy,hW,⟨z,hz⟩,cb0⟩:=YO V _ 42;rw[hW];have c0_0:=cb0 0 _ rfl;have c0_1:=cb0 1 _ rfl;have c0_2:=cb0 2 _ rfl;open Z renaming afN→Lh in exact L0):P:=h
def Hq(h:P:=by
 go_wp2_with fail;go_ret;exact⟨congrArg (fun z=>Zd (Zy z)) hF.out,MQ _ _⟩):P:=h
def pA(h:P:=by
 rw[hW];have c0_0:=cb0 0 _ rfl;have c0_1:=cb0 1 _ rfl;exact Hp):P:=h
def pB(h:P:=by
 clear hR;have h0:=Zf h0;have h1:=Zf h1;go_enter func56,ntmps56;go_wp2_with fail;obtain⟨W,yy,hW,⟨z,hz⟩,cb0⟩:=YO V _ 87;rw[hW];have c0_0:=cb0 0 _ rfl;have c0_1:=cb0 1 _ rfl;open Z renaming afO→Lh in exact L0):P:=h
def Ht(h:P:=by
 clear hR;clear h0;go_enter func210,ntmps210;exact Hq):P:=h
def pC(h:P:=by
 clear hR;have h0:=Zf h0;go_enter func210,ntmps210;exact DY):P:=h
def D3(h:P:=by
 clear hR;clear h0;go_enter func211,ntmps211;exact MD):P:=h
def D4(h:P:=by
 go_wp2_with fail;have q0c:=Zf h0.out.pure;refine (KH h0.out).mono ?_;rintro r w' ⟨rfl,x1,rfl⟩;go_wp2_with fail;go_ret;exact⟨congrArg (fun z=>Zd (Zy z)) hF.out,_,rfl⟩):P:=h
def pE(h:P:=by
 clear hR;have h0:=Zf h0;go_enter func211,ntmps211;exact D4):P:=h
def O8(h:P:=by
 clear hR;go_enter func212,ntmps212;exact MD):P:=h
def pF(h:P:=by
 clear hR;have h0:=Zf h0;go_enter func190,ntmps190;exact D4):P:=h
def pG(h:P:=by
 clear hR;clear h0;go_enter func190,ntmps190;exact MD):P:=h
def pH(h:P:=by
 refine wpQuiet_nil ?_;rintro _ ⟨y1,rfl⟩;go_wp2;exact XO):P:=h
def pJ(h:P:=by
 clear hR;clear h0 h1;go_enter func213,ntmps213;go_wp2;obtain⟨W,yy,hW,⟨z,hz⟩,cb0⟩:=YO V _ 45;open Z renaming aqP→QW in exact Q5):P:=h
def pK(h:P:=by
 have ZN:=Zf hz;clear hW hz cb0 cb1;exact pq):P:=h
def MJ(h:P:=by
 have q0c:=Zf (ZK hz h0.out);exact pK):P:=h
def pL(h:P:=by
 open Z renaming adk→Xy in exact Xz):P:=h
def pO(h:P:=by
 open Z renaming ahh→RQ in exact Qb):P:=h
def pP(h:P:=by
 have q0c:=Zf (ZK hz h0.out);have q1c:=Zf (ZK hz h1.out);exact pO):P:=h
def pQ(h:P:=by
 open Z renaming adl→Xy in exact Xz):P:=h
def pR(h:P:=by
 open Z renaming ahj→RQ in exact Qb):P:=h
def pS(h:P:=by
 open Z renaming adm→Xy in exact Xz):P:=h
def pU(h:P:=by
 open Z renaming ahk→RQ in exact Qb):P:=h
def D8(h:P:=by
 clear hR;have h0:=Zf h0;have h1:=Zf h1;have h2:=Zf h2;have h3:=Zf h3;open Z renaming aoU→Ju in exact Hs):P:=h
def pV(h:P:=by
 open Z renaming D8→Xy in exact Xz):P:=h
def D9(h:P:=by
 open Z renaming D8→WV in exact WX):P:=h
def pW(h:P:=by
 open Z renaming akL→Lr in exact Kb):P:=h
def pY(h:P:=by
 rw[hn];clear hA hl hn hf;go_enter func64,ntmps64;exact UG):P:=h
def TF(h:P:=by
 obtain rfl:k=n:=asB;have ZP:=Zf (show true=R by
  rw[←hs.out,List.drop_of_length_le asV];rfl)
 exact si):P:=h
def oa(h:P:=by
 rw[hn];clear hA hl hn hf;go_enter func55,ntmps55;exact UG):P:=h
def Na(h:P:=by
 have q1':=Zf q1;have a6:=Zf (Y7 k n ZC Yt.out);clear q1 hZ hc ha hs ea;cases Z with
 | true =>
  have ZP:=Zf (show (l.drop (k+1)).all may=R by rw[←ZQ,Bool.true_and]);clear ZQ;go_wp2_with (refine Pw q1'.out ?_;rintro e w' ⟨rfl,x,rfl⟩);go_roundw
  case rel=>exact⟨k+1,ZC,congrArg (Zz .i64) a6.out,ZP,x,rfl⟩
  case measure=>exact Y9 k n ZC a6.out
 | false =>
  have ZP:=Zf (show false=R by rw[←ZQ,Bool.false_and]);clear ZQ;go_wp2_with (refine Pw q1'.out ?_;rintro e w' ⟨rfl,x,rfl⟩);go_ret;exact⟨congrArg (fun z=>Zd (Zy z)) ZP.out,x,rfl⟩):P:=h
def oc(h:P:=by
 rw[ea]at q1;have d0:=fun y=>(hc.plus y).c0 _ asI;have d1:=fun y=>(hc.plus y).cs 0 _ asI;exact Na):P:=h
def od(h:P:=by
 rw[hn];clear hA hl hn hf;go_enter func188,ntmps188;exact UG):P:=h
def oe(h:P:=by
 rw[hn];clear hA hl hn hf;go_enter func53,ntmps53;exact UG):P:=h
def og(h:P:=by
 rw[hn];clear hA hl hn hf;go_enter func57,ntmps57;exact UG):P:=h
def oh(h:P:=by
 rw[ea]at q1;open Z renaming Na→zB in exact pM):P:=h
def oi(h:P:=by
 rw[hn];clear hA hl hn hf;go_enter func59,ntmps59;exact UG):P:=h
def Cc(h:P:=by
 rw[ea]at q1;open Z renaming Na→K7 in exact Iy):P:=h
def ol(h:P:=by
 rw[hn];clear hA hl hn hf;go_enter func61,ntmps61;exact UG):P:=h
def om(h:P:=by
 rw[hn];clear hA hl hn hf;go_enter func133,ntmps133;exact UG):P:=h
def oo(h:P:=by
 rw[hn];clear hA hl hn hf;go_enter func135,ntmps135;exact UG):P:=h
def oq(h:P:=by
 rw[hn];clear hA hl hn hf;go_enter func138,ntmps138;exact UG):P:=h
def ot(h:P:=by
 rw[hn];clear hA hl hn hf;go_enter func191,ntmps191;exact UG):P:=h
def ou(h:P:=by
 rw[hn];clear hA hl hn hf;go_enter func214,ntmps214;exact UG):P:=h
def ow(h:P:=by
 go_wp2_with fail;obtain⟨W,yy,hW,⟨z,hz⟩,cb0⟩:=YO V _ 45;open Z renaming Hp→QW in exact Q5):P:=h
def Cd(h:P:=by
 obtain⟨x,hx⟩:=MR V a b;exact hL _ x hx):P:=h
def Ce(h:P:=by
 go_enter func186,ntmps186;go_wp2_with fail;go_ret;exact⟨rfl,Cn _ _ _ _⟩):P:=h
def ox(h:P:=by
 rintro r w' ⟨rfl,x1,rfl⟩;go_wp2_with fail;exact Ul):P:=h
def Cf(h:P:=by
 refine (q0.out _).mono ?_;exact ox):P:=h
def oy(h:P:=by
 refine (q0c.out _).mono ?_;rintro r w' ⟨rfl,x1,rfl⟩;go_wp2_with (first|(go_at_call 55;with_reducible refine (q1c.out _).mono ?_;rintro r w' ⟨rfl,x,rfl⟩));exact XO):P:=h
def oz(h:P:=by
 clear hR;have h0:=Zf h0;have h1:=Zf h1;go_enter func54,ntmps54;go_wp2_with fail;obtain⟨W,yy,hW,⟨z,hz⟩,cb0⟩:=YO V _ 66;rw[hW];have c0_0:=cb0 0 _ rfl;have c0_1:=cb0 1 _ rfl;have q0c:=Zf (ZK hz h0.out);have q1c:=Zf (ZK hz h1.out);have ZN:=Zf hz;clear hW hz cb0;exact oy):P:=h
def oA(h:P:=by
 clear hR;have h0:=Zf h0;have h1:=Zf h1;go_enter func224,ntmps224;go_wp2_with fail;obtain⟨W,yy,hW,⟨z,hz⟩,cb0,cb1⟩:=Xu V _ _ 219 162;rw[hW];have c0_0:=cb0 0 _ rfl;have c0_1:=cb0 1 _ rfl;open Z renaming ady→Lc in exact LS):P:=h
def xU(h:P:=by
 have c1_0:=cb1 0 _ rfl;have c1_1:=cb1 1 _ rfl;have c1_2:=cb1 2 _ rfl;exact MJ):P:=h
def xV(h:P:=by
 rw[hW];have c0_0:=cb0 0 _ rfl;have c0_1:=cb0 1 _ rfl;have c0_2:=cb0 2 _ rfl;exact xU):P:=h
def xX(h:P:=by
 clear hR;have h0:=Zf h0;have h1:=Zf h1;go_enter func193,ntmps193;go_wp2_with fail;obtain⟨W,yy,hW,⟨z,hz⟩,cb0,cb1⟩:=Xu V _ _ 117 70;open Z renaming agV→Lk in exact L5):P:=h
def xY(h:P:=by
 open Z renaming aef→Sk in exact Sp):P:=h
def we(h:P:=by
 open Z renaming agW→Lk in exact L5):P:=h
def wh(h:P:=by
 go_wp2_with fail;obtain⟨W,yy,hW,⟨z,hz⟩,cb0,cb1⟩:=Xu V _ _ 117 61;exact we):P:=h
def wj(h:P:=by
 clear hR;have h0:=Zf h0;have h1:=Zf h1;have h2:=Zf h2;go_enter func58,ntmps58;go_wp2_with fail;obtain⟨W,yy,hW,⟨z,hz⟩,cb0,cb1⟩:=Xu V _ _ 117 61;open Z renaming arH→N8 in exact ML):P:=h
def wk(h:P:=by
 clear hR;have h0:=Zf h0;have h1:=Zf h1;have h2:=Zf h2;go_enter func60,ntmps60;go_wp2_with fail;obtain⟨W,yy,hW,⟨z,hz⟩,cb0,cb1⟩:=Xu V _ _ 117 72;open Z renaming agX→Lk in exact L5):P:=h
def wl(h:P:=by
 open Z renaming akM→Lr in exact Kb):P:=h
def wm(h:P:=by
 clear hR;clear h0;go_enter func134,ntmps134;exact Q4):P:=h
def wo(h:P:=by
 clear hR;have h0:=Zf h0;go_enter func134,ntmps134;go_wp2_with fail;obtain⟨W,yy,hW,⟨z,hz⟩,cb0,cb1⟩:=Xu V _ _ 117 52;rw[hW];have c0_0:=cb0 0 _ rfl;have c0_1:=cb0 1 _ rfl;have c0_2:=cb0 2 _ rfl;open Z renaming adz→Lc in exact LS):P:=h
def LP(h:P:=by
 clear hR;have h0:=Zf h0;have h1:=Zf h1;open Z renaming alq→zd in exact tJ):P:=h
def wq(h:P:=by
 go_wp2_with fail;go_ret;exact⟨congrArg (fun z=>Zd (Zy z)) hF.out,Cn _ _ _ _⟩):P:=h
def wu(h:P:=by
 refine (q0.out _).mono ?_;exact Dk):P:=h
def wA(h:P:=by
 have q0:=Zf (ZK hz h0.out);have ZN:=Zf hz;clear hW hz ca cb cc h0;exact wu):P:=h
def wB(h:P:=by
 have hF:=Zf hR;clear hR;have h0:=Zf h0;go_enter func215,ntmps215;go_wp2_with fail;obtain⟨W,yy,hW,⟨z,hz⟩,ca,cb,cc⟩:=KB V _ _ _ 117 162 219;open Z renaming aiK→GD in exact E9):P:=h
def wE(h:P:=by
 have hF:=Zf hR;clear hR h2;have h0:=Zf h0;have h1:=Zf h1;open Z renaming aq1→Fb in exact D6):P:=h
def wG(h:P:=by
 have hF:=Zf hR;clear hR h1;have h0:=Zf h0;have h2:=Zf h2;open Z renaming aq2→Fb in exact D6):P:=h
def Ik(h:P:=by
 clear hR;have h0:=Zf h0;go_enter func132,ntmps132;exact wh):P:=h
def wJ(h:P:=by
 clear hR;have h0:=Zf h0;have h1:=Zf h1;have h2:=Zf h2;go_enter func139,ntmps139;go_wp2_with fail;open Z renaming ao3→Qv in exact QF):P:=h
def wL(h:P:=by
 refine (q1.out _).mono ?_;exact ox):P:=h
def wM(h:P:=by
 have hF:=Zf hR;open Z renaming akN→Lr in exact Kb):P:=h
def wN(h:P:=by
 go_wp2;exact⟨rfl,rfl,asK⟩):P:=h
def EO(h:P:=by
 exact⟨rfl,att⟩):P:=h
def EP(h:P:=by
 go_ret;exact EO):P:=h
def wU(h:P:=by
 go_wp2;exact EP):P:=h
def wW(h:P:=by
 refine wpQuiet_nil ?_;rintro _ ⟨y7,rfl⟩;exact wU):P:=h
def wZ(h:P:=by
 rw[hY4];clear hY4;simp only[Ty.v,XN];have YS:=hR.out Y4;open Z renaming ajp→NS in exact Mx):P:=h
def vc(h:P:=by
 intro y0;have hN:=hN.up y0;have k:=k.up y0;obtain⟨V,hV⟩:=ZB (plus w y0);rw[hV]at hN k ⊢;clear hV;have Sz:=Zf hN;have k':=Zf k;clear hN k;go_enter func47,ntmps47;go_wp2_with fail;obtain⟨X,Y0,hX,⟨zX,ZE⟩,-,ca,cb,cc,fc⟩:=Tb V _ _ _ 90 45 75;open Z renaming anJ→WL in exact WO):P:=h
def vd(h:P:=by
 have h2:2 ^ j≤2 ^ 63:=Nat.pow_le_pow_right asE asB;omega):P:=h
def ve(h:P:=by
 simp only[e3,Value.pointer.injEq,Option.some.injEq,Addr.mk.injEq]at e1 e2;omega):P:=h
def ET(h:P:=by
 clear hT;go_wp2;go_ret;exact⟨congrArg (fun z:Int=>Zd (.int .i64 z)) e0.symm,Yy hbl.out⟩):P:=h
def vf(h:P:=by
 rw[hzz,ZY.out,ZD,ZD];exact⟨_,rfl⟩):P:=h
def vg(h:P:=by
 refine wpAnyH_ready (rs:=[7]) asC asD ?_;refine Za rfl (fun K hK=>?_) AllReadyH.nil;have r0:=hN.rb.r0;have r1:=hN.rb.r1;have r2:=hN.rb.r2;have rf:=hN.rb.rf;go_simp;refine hK.out _ _ (hN.set ⟨tw,tt,tf⟩).up (fun _=>?_);clear hK K r0 r1 r2 rf;refine wpAnyH_done asC ?_ _;go_wp2_with fail;go_meet;exact⟨b,rfl,hN.set ⟨tw,tt,tf⟩⟩):P:=h
def LZ(h:P:=by
 open Z renaming ao6→G9 in exact D2):P:=h
def vp(h:P:=by
 rw[hY5];clear hY5;have YS:=Wd.out Y5;have r0:=YS.r0;have r1:=YS.r1;have r2:=YS.r2;have rf:=YS.rf;have Vu:=Zf YS;clear YS Wd;go_wp2;obtain⟨Z,hZ,g0,g1,g2,hV⟩:=Vu.out.set ⟨rw2,rt2,rf2⟩;simp only at hZ;rw[hZ];clear hZ;exact bodyPost_ret (v:=.agg #[.int .i64 rw2,.bool rt2,.bool rf2]) auk rfl ⟨rfl,hV⟩):P:=h
def vu(h:P:=by
 go_wp2;obtain⟨zz,hzz⟩:=Uf.out;exact⟨rfl,rfl,by rw[hzz,ZD,ZD];exact⟨_,rfl⟩⟩):P:=h
def vv(h:P:=by
 clear qko;exact vu):P:=h
def afq(h:P:=by
 open Z renaming aow→NY in exact MF):P:=h
def vx(h:P:=by
 go_cut [5] from 13 to 18 (fun s5 wx=>∃b:Nat,s5=.pointer (some ⟨b,0,none⟩)∧PW X b ⟨tw,tt,tf⟩ wx)
 case first =>
  exact LZ
 case rest =>
  exact afq):P:=h
def vz(h:P:=by
 refine wpAnyH_ready (rs:=[7]) asC asD ?_;refine Za rfl (fun K hK=>?_) AllReadyH.nil;have r0:=hN.rb.r0;have r1:=hN.rb.r1;have r2:=hN.rb.r2;have rf:=hN.rb.rf;go_simp;refine hK.out _ _ (hN.set ⟨tw,false,false⟩).up (fun _=>?_);clear hK K r0 r1 r2 rf;refine wpAnyH_done asC ?_ _;go_wp2_with fail;go_meet;exact⟨b,rfl,hN.set ⟨tw,false,false⟩⟩):P:=h
def vB(h:P:=by
 open Z renaming asp→Jy in exact Hw):P:=h
def vE(h:P:=by
 open Z renaming asq→Jy in exact Hw):P:=h
def vF(h:P:=by
 simp[Instr.typeAssert,run_underlying Tryz.underlying33,go_sem]):P:=h
def vG(h:P:=by
 exact⟨trivial,_,rfl,_,results_none rfl _ _ _,asD⟩):P:=h
def vH(h:P:=by
 simp[Leaves,settle,results,Tryz.results18,go_sem,p0];exact⟨_,WB.out,by rw[ZO.out]⟩):P:=h
def vI(h:P:=by
 rw[Int.toNat_natCast,WK]at h;exact⟨_,size_madeCells _ _,h⟩):P:=h
def QE(h:P:=by
 go_ret;exact⟨congrArg (fun z=>Zd (Zz .i64 z)) hR.out,asK⟩):P:=h
def EW(h:P:=by
 go_wp2;exact QE):P:=h
def vL(h:P:=by
 go_wp2_with (first|(go_at_call 87;with_reducible refine (qk5.out _).mono ?_;rintro r w' ⟨rfl,x,rfl⟩)|(go_at_call 86;with_reducible refine (qk6.out _).mono ?_;rintro r w' ⟨rfl,x,rfl⟩));exact QE):P:=h
def EY(h:P:=by
 go_wp2_with (first|(go_at_call 87;with_reducible refine (q1.out _).mono ?_;rintro r w' ⟨rfl,x,rfl⟩)|(go_at_call 82;with_reducible refine (q2.out _).mono ?_;rintro r w' ⟨rfl,x,rfl⟩)|(go_at_call 147;with_reducible refine (q3.out _).mono ?_;rintro r w' ⟨rfl,x,rfl⟩));exact QE):P:=h
def vP(h:P:=by
 replace hR:=Zf hR;exact EY):P:=h
def Uk(h:P:=by
 go_ret;exact⟨rfl,asK⟩):P:=h
def E3(h:P:=by
 replace hR:=Zf hR;exact EW):P:=h
def UF(h:P:=by
 gi_wp2;go_ret;exact .inr ⟨rfl,hx⟩):P:=h
def vV(h:P:=by
 obtain⟨fn,tmps,assign,body,hy,hR⟩:=hy;unfold RL at hy;refine callsIn_of_wp func71 rfl trivial ?_ rfl;simp only[ntmps71,List.size_toArray,Zk,Zl,Nat.reduceAdd,Nat.reduceSub,Array.replicate_succ,Array.replicate_zero,List.push_toArray,List.append_toArray,List.nil_append,List.cons_append];gi_wp2;refine⟨rfl,(F4 hR).mono ?_⟩;rintro e w' (⟨rfl,hJ,hk⟩|⟨rfl,hx⟩)
 ·gi_wp2
  go_ret;exact .inl ⟨rfl,hJ,hk⟩
 ·exact UF):P:=h
def vX(h:P:=by
 rcases h with⟨rfl,hJ,h2⟩|h
 ·exact .inl ⟨rfl,by rw[←Nat.add_assoc];exact hJ,hk.trans h2⟩
 ·exact .inr h):P:=h
def ub(h:P:=by
 obtain⟨j,hj,rfl,hJ,hK⟩:=hrel;by_cases ZC:j<n
 ·obtain⟨fn,tmps,assign,body,hy,hR⟩:=hy'.out j wr ZC hJ
  unfold RL at hy;have a6:=Zf (Y7 j n ZC ZO.out);have ZR:=Zf hR;clear hR;gi_wp2;refine⟨rfl,(F4 ZR.out).mono ?_⟩;rintro e w' (⟨rfl,Xc,Yp⟩|⟨rfl,hx⟩)
  ·gi_wp2
   go_roundw
   case rel=>exact⟨j+1,ZC,congrArg (Zz .i64) a6.out,Xc,hK.trans Yp⟩
   case measure=>exact Y9 j n ZC a6.out
  ·exact UF
 ·obtain rfl:j=n:=by omega
  clear ZC hj;gi_wp2;go_ret;exact .inl ⟨rfl,hJ,hK⟩):P:=h
def ID(h:P:=by
 have hJi':=Zf Xq;have q1:=Zf (fun o:Obj=>Wi.out i a (wr.alloc o) ha (hK.trans (Kq.alloc _ _ o)) (UB Tv.out Xq o));simp only[ea]at q1;clear ea;have ha':=Zf ha;clear We hc ha Xq;gi_wp2;refine⟨trivial,?_⟩;gi_wp2;refine⟨rfl,CallsIn.mono (HK (q1.out _)) ?_⟩;rintro e w' (⟨rfl,Xc,Yp⟩|⟨rfl,hx⟩)
 ·gi_wp2
  go_roundw
  case rel=>exact⟨i+1,ZC,congrArg (Zz .i64) a6.out,aul,(hK.trans (Kq.alloc _ _ _)).trans Yp⟩
  case measure=>exact Y9 i n ZC a6.out
 ·exact UF):P:=h
def ue(h:P:=by
 have d0:=hc.c0 _ asI;have d1:=hc.cs 0 _ asI;exact ID):P:=h
def Sq(h:P:=by
 obtain rfl:i=n:=asB;have hJi2:=Zf Xq;clear ZC hi Xq;gi_wp2;go_ret;exact .inl ⟨rfl,by rw[←hall'.out];exact hJi2.out,hK⟩):P:=h
def ui(h:P:=by
 open Z renaming ID→Gw in exact E4):P:=h
def uj(h:P:=by
 have TC:=Ih m l i a ha;have a6:=Zf (Y7 i n ZC Yt.out);have d0:=hc.c0 _ rfl;simp only[Nat.mul_one]at d0;have hJi':=Zf Xq;have q1:=Zf (Wi.out i a wr ha hK Xq);have ha':=Zf ha;clear We hc ha Xq;gi_wp2;refine⟨trivial,?_⟩;gi_wp2;refine⟨rfl,CallsIn.mono (HK q1.out) ?_⟩;rintro e w' (⟨rfl,Xc,Yp⟩|⟨rfl,hx⟩)
 ·gi_wp2
  go_roundw
  case rel=>exact⟨i+1,ZC,congrArg (Zz .i64) a6.out,aul,hK.trans Yp⟩
  case measure=>exact Y9 i n ZC a6.out
 ·exact UF):P:=h
def Qc(h:P:=by
 gi_wp2;refine⟨trivial,?_⟩;exact UF):P:=h
def PK(h:P:=by
 gi_wp2;refine⟨trivial,?_⟩;exact Qc):P:=h
def IJ(h:P:=by
 gi_wp2;refine⟨trivial,?_⟩;exact PK):P:=h
def um(h:P:=by
 have c2:=Yo.out _ Wh;have d2:=hd'.out _ Wh;have q2:=Zf (Xg.out w2 Wh Xc);have Rc:=Zf Wh;clear c1 d1 e4 Yp VI Wh Xc q1;gi_wp2;refine⟨trivial,rfl,CallsIn.mono q2.out ?_⟩;rintro e w3 (⟨rfl,hJ3,Xi⟩|⟨rfl,hx⟩)
 ·gi_wp2
  go_ret;exact .inl ⟨rfl,by rw[show k+(1+(m+n))=k+1+m+n by omega];exact hJ3,Rc.out.trans Xi⟩
 ·exact UF):P:=h
def uq(h:P:=by
 clear c0 d0 hy1;exact PK):P:=h
def ur(h:P:=by
 rintro r w' (⟨rfl,hJ,hk⟩|⟨rfl,hx⟩)
 ·gi_wp2
  go_ret;exact .inl ⟨rfl,hJ,hA.trans hk⟩
 ·exact UF):P:=h
def us(h:P:=by
 clear hR hs h0;refine callsIn_of_wp func80 rfl trivial ?_ rfl;simp only[ntmps80,List.size_toArray,Zk,Zl,Nat.reduceAdd,Nat.reduceSub,Array.replicate_succ,Array.replicate_zero,List.push_toArray,List.append_toArray,List.nil_append,List.cons_append];gi_wp2;refine⟨trivial,rfl,CallsIn.mono q1.out ?_⟩;rintro e w' (⟨rfl,Xc,Yp⟩|⟨rfl,hx⟩)
 ·gi_wp2
  go_ret;exact .inl ⟨rfl,Xc,Yp⟩
 ·exact UF):P:=h
def uv(h:P:=by
 have Uq:=Zf hW6;clear hA6 hk6 hW6;gi_wp2;go_end0;exact⟨⟨_,rfl⟩,.inl ⟨hJ6,Uq.out⟩⟩):P:=h
def Da(h:P:=by
 gi_wp2;go_end0;exact⟨⟨_,rfl⟩,.inr hx⟩):P:=h
def Db(h:P:=by
 gi_wp2;refine⟨trivial,?_⟩;exact Da):P:=h
def Dc(h:P:=by
 gi_wp2;refine⟨trivial,?_⟩;exact Db):P:=h
def Dd(h:P:=by
 gi_wp2;refine⟨trivial,?_⟩;exact Dc):P:=h
def De(h:P:=by
 gi_wp2;refine⟨trivial,?_⟩;exact Dd):P:=h
def Df(h:P:=by
 gi_wp2;refine⟨trivial,?_⟩;exact De):P:=h
def uH(h:P:=by
 gi_wp2;refine⟨trivial,?_⟩;exact Df):P:=h
def uL(h:P:=by
 have:=YW Hr.sz p.headers.l x hm;have h2:=XM Fd.sz (fun y=>atm) x.fields.l;unfold Hr.sz Sl.size at *;omega):P:=h
def ajP(h:P:=by
 rw[←Y8];have:=World.alloc_heap_new (w.alloc (.deferred (some []))) (.loop (rec .ready none));rwa [World.size_alloc]at this):P:=h
def ajX(h:P:=by
 rw[←Y8];exact (Below.heap_alloc _ _ _ asD).trans (World.alloc_heap_new w _)):P:=h
def IT(h:P:=by
 have hJi':=Zf Xq;have q1:=Zf (fun o:Obj=>Wi.out i a (wr.alloc o) ha (hK.trans (Kr.alloc _ _ o)) (UB Tv.out Xq o));simp only[ea]at q1;clear ea;have ha':=Zf ha;clear We hc ha Xq;gi_wp2;refine⟨trivial,?_⟩;gi_wp2;refine⟨rfl,CallsIn.mono (HK (q1.out _)) ?_⟩;rintro e w' (⟨rfl,Xc,Yp⟩|⟨rfl,hx⟩)
 ·gi_wp2
  go_roundw
  case rel=>exact⟨i+1,ZC,congrArg (Zz .i64) a6.out,aul,(hK.trans (Kr.alloc _ _ _)).trans Yp⟩
  case measure=>exact Y9 i n ZC a6.out
 ·exact UF):P:=h
def uS(h:P:=by
 have d0:=hc.c0 _ asI;have d1:=hc.cs 0 _ asI;exact IT):P:=h
def uU(h:P:=by
 open Z renaming IT→Gw in exact E4):P:=h
def uW(h:P:=by
 simp only[Sl.v]at h1;rw[hp]at h1 ⊢;exact aaX _ _ _ _ _ _ _ _ _ _ _ _ _ _ _ _ _ _ _ _ _ _ _ _ _ _ _ _ _ _ _ _ _ _ _ _ _ _ _ _ _ _ _ _ _ _ _ _ _ _ _ _ _ _ (a) (hl) (hc1) (h1)):P:=h
def Dp(h:P:=by
 obtain rfl:=List.mem_singleton.1 hm;simp[It.kd]):P:=h
def te(h:P:=by
 rw[hv]at q;have e2:y.toList=x.dflt.name.toList:=ats;have e3:XD p.actions.l y=XD p.actions.l x.dflt.name:=by unfold XD;rw[e2]
 rw[←e3];intro e4;rw[if_pos e4]at q;cases q):P:=h
def ti(h:P:=by
 exact (YI _ _ _ _ j rfl).trans (by simpa [Pr.cells,Sl.v]using hj)):P:=h
def tm(h:P:=by
 cases i with
 | zero=>exact⟨rfl,by simpa using hy.symm⟩
 | succ i=>simp at hy):P:=h
def tz(h:P:=by
 rw[Nat.zero_mul,Addr.add_lit,Addr.add_lit];simp only[Zv];refine (YI W cs _ _ j rfl).trans ?_;rw[←hc]at hu;simpa using hu):P:=h
def tD(h:P:=by
 have hI':=Zf hI;clear hI ZC hk;go_wp2;go_ret;exact⟨_,rfl,hI'.out⟩):P:=h
def tE(h:P:=by
 obtain⟨z,rfl⟩:=h;exact Yy ((Xl W z).setCell (p:=a) ha _)):P:=h
def tH(h:P:=by
 go_enter func164,ntmps164;go_upto_region 1 with (fail)
 obtain⟨X,Y0,hX,⟨zX,ZE⟩,ca⟩:=YO V _ 42;rw[hX];have d0:=ca 0 _ rfl;have hz:=Zf ZE;clear hX ca ZE;exact wU):P:=h
def tK(h:P:=by
 go_wp2;go_end0;exact⟨rfl,atE⟩):P:=h
def Dy(h:P:=by
 go_wp2;go_end0;exact EO):P:=h
def tN(h:P:=by
 rintro r w' ⟨rfl,x2,rfl⟩;rw[show Yl 0 (.tuple #[])=.returned (.tuple #[]) from rfl];exact Dy):P:=h
def tQ(h:P:=by
 rintro r w' ⟨rfl,x2,rfl⟩;rw[show Yl R (.tuple #[])=YJ R by rw[Yl,if_neg r0]];go_wp2;exact⟨rfl,(VH r0).symm,att⟩):P:=h
def alV(h:P:=by
 go_wp2_with fail;refine (qkg.out y1).mono ?_;exact tQ):P:=h
def tT(h:P:=by
 simp only[Zs,List.take_zero,Zg,Zh];repeat (go_big_quiet_step (first|(with_reducible exact qkt.out _)))
 refine wpQuiet_nil ?_;rintro _ ⟨y1,rfl⟩;clear qkt;by_cases r0:R=0
 ·subst r0
  go_wp2_with fail;refine (qkg.out y1).mono ?_;exact tN
 ·exact alV):P:=h
def tU(h:P:=by
 open Z renaming akn→GL in exact Dl):P:=h
def tW(h:P:=by
 rcases List.mem_cons.1 hm with hm|hm
 ·cases hm
 ·obtain⟨j,_,e⟩:=UY hm;cases e):P:=h
def tZ(h:P:=by
 have RJ:=Zf hzr;have hend':=Zf VW;clear hzr VW hJ;go_wp2;go_end0;exact⟨by rw[hend'.out];rfl,⟨z,RJ.out⟩⟩):P:=h
def amm(h:P:=by
 obtain⟨h1,h2⟩:=HNE.out _ e.symm;have:=Hlt.out;rcases ha with ha|ha <;> omega):P:=h
def amn(h:P:=by
 by_cases UQ:j<k
 ·exact Tv.out j y UQ hy
 ·obtain rfl:j=k:=by omega
  rw[VY.out]at hy;obtain rfl:=Option.some.inj hy;rw[HKT.out];exact q0):P:=h
def I9(h:P:=by
 have hVw:w0.heap.size≤V.heap.size:=by obtain⟨z,hz⟩:=hV'.out;rw[hz];exact XZ w0 z
 refine⟨⟨k+1,ZC,congrArg (Zz .i64) a6.out,?_,hq5,_,HB5.out.set _,?_,fun j y hj hy=>?_⟩,Y9 k n ZC a6.out⟩
 ·obtain⟨z,hz⟩:=hV'.out
  refine Yy (Below.trans (b:=V) (by rw[hz];exact Xl w0 z) (hq5.low _ hVw (fun b h=>by have:=hcb'.out;omega)))
 ·have q:=JJ G2.out (W':=W5.setCell ⟨cb,7,none⟩ (.slice (some ⟨g,0,none⟩) (k+1) cap)) (fun b cur hb _ _=>Below.heap_setCell _ _ _ b (by have:=Hlt.out;simp only;omega))
  rw[List.take_add_one,VY.out];simp only[Option.toList_some,List.map_append,Zm,List.map_nil,List.flatten_append,List.flatten_cons,List.flatten_nil,List.append_nil,HKW.out,NI];exact q
 ·exact amn):P:=h
def amo(h:P:=by
 go_wp2_with fail;refine (Fg kc'.out ⟨_,atB⟩).mono ?_;rintro r w' ⟨rfl,x2,rfl⟩;rw[show Yl R (.tuple #[])=YJ R by rw[Yl,if_neg r0]];go_wp2;exact⟨rfl,(VH r0).symm,atE⟩):P:=h
def Ha(h:P:=by
 open Z renaming afj→NM in exact Ms):P:=h
def sd(h:P:=by
 rw[if_pos asD]at hv;cases st with
 | true =>
  cases tt with
  | true =>
   rw[if_pos asD]at hv;subst hv;clear q1 q2 qs Xr;go_wp2;obtain⟨V,hV,g0,g1,g2,hz⟩:=VC SH.out (W.heap.size+1+1+1) asB _ _ _ _ (.int .i64 (sw)) (.bool true) (.bool sf) r0 r1 r2;rw[hV];clear hV;exact bodyPost_ret (v:=.tuple #[.agg #[.int .i64 (sw),.bool true,.bool sf],.int .i64 (0)]) asY rfl ⟨rfl,hz⟩
  | false =>
   rw[if_neg asD]at hv;subst hv;clear q1 q2 qs Xr;go_wp2;obtain⟨V,hV,g0,g1,g2,hz⟩:=VC SH.out (W.heap.size+1+1+1) asB _ _ _ _ (.int .i64 (0)) (.bool false) (.bool false) r0 r1 r2;rw[hV];clear hV;exact bodyPost_ret (v:=.tuple #[.agg #[.int .i64 (0),.bool false,.bool false],.int .i64 (9)]) asY rfl ⟨rfl,hz⟩
 | false =>
  rw[if_neg asD]at hv;subst hv;clear q1 q2 qs Xr;go_wp2;obtain⟨V,hV,g0,g1,g2,hz⟩:=VC SH.out (W.heap.size+1+1+1) asB _ _ _ _ (.int .i64 (0)) (.bool false) (.bool false) r0 r1 r2;rw[hV];clear hV;exact bodyPost_ret (v:=.tuple #[.agg #[.int .i64 (0),.bool false,.bool false],.int .i64 (9)]) asY rfl ⟨rfl,hz⟩):P:=h
def se(h:P:=by
 go_wp2_with (first|(go_at_call 207;with_reducible refine (qs.out _).mono ?_;rintro r w' ⟨rfl,x,rfl⟩));obtain⟨V,hV,g0,g1,g2,hz⟩:=VC SH.out (W.heap.size+1+1+1) asB _ _ _ _ (.int .i64 (S2)) (.bool false) (.bool false) r0 r1 r2;rw[hV];clear hV;exact bodyPost_ret (v:=.tuple #[.agg #[.int .i64 (S2),.bool false,.bool false],.int .i64 (0)]) asY rfl ⟨rfl,hz⟩):P:=h
def sg(h:P:=by
 obtain⟨V,hV,g0,g1,g2,hz⟩:=VC SH.out (W.heap.size+1+1) asB _ _ _ _ (.int .i64 (0)) (.bool false) (.bool false) r0 r1 r2;rw[hV];clear hV;exact bodyPost_ret (v:=.tuple #[.agg #[.int .i64 (0),.bool false,.bool false],.int .i64 (7)]) atF rfl ⟨rfl,hz⟩):P:=h
def sj(h:P:=by
 open Z renaming alm→Jl in exact IZ):P:=h
def sm(h:P:=by
 obtain⟨V,hV,g0,g1,g2,hz⟩:=VC SH.out (W.heap.size+1+1) asB _ _ _ _ (.int .i64 (tw)) (.bool tt) (.bool tf) r0 r1 r2;rw[hV];clear hV;exact bodyPost_ret (v:=.tuple #[.agg #[.int .i64 (tw),.bool tt,.bool tf],.int .i64 (E)]) atF rfl ⟨rfl,hz⟩):P:=h
def so(h:P:=by
 open Z renaming alQ→zj in exact tR):P:=h
def MC(h:P:=by
 go_wp2;go_ret;exact⟨congrArg (fun z=>Zd (Zz .i64 z)) ZP.out,hx.out⟩):P:=h
def sr(h:P:=by
 clear ZQ;go_wp2;go_roundw
 case rel=>exact⟨k+1,ZC,congrArg (Zz .i64) a6.out,ZP,(by first|rfl|trivial)⟩
 case measure=>exact Y9 k n ZC a6.out):P:=h
def Kc(h:P:=by
 have hZ:(a.name.toList==s.toList)=false:=by simpa using hZ
 exact sr):P:=h
def Kd(h:P:=by
 obtain rfl:k=n:=asB;have ZP:=Zf (show (-1:Int)=R from by
  rw[←hs.out,List.drop_of_length_le asV];rfl)
 clear hs ZC hk;exact MC):P:=h
def ss(h:P:=by
 go_wp2_with (first|(go_at_call 184;with_reducible refine (qc.out _).mono ?_;rintro r w' ⟨rfl,x,rfl⟩));exact DM):P:=h
def su(h:P:=by
 have Wd:=Zf hR;clear hR ZR;go_wp2;go_ret2;exact⟨by rw[←Wd.out] <;> rfl,hx.out⟩):P:=h
def sy(h:P:=by
 go_wp2;go_ret2;exact⟨by first|(rw[←ZP.out];done)|(rw[←ZP.out];rfl),hx.out⟩):P:=h
def sC(h:P:=by
 split
 ·exact .inl rfl
 ·split
  ·exact .inl rfl
  ·exact RK _ _):P:=h
def Hb(h:P:=by
 go_ret;exact⟨congrArg (fun z=>Zd (Zy z)) h2.out,by first|(rw[ZN.out,ZD,ZD];exact⟨_,rfl⟩)|(rw[ZN.out,ZD];exact⟨_,rfl⟩)⟩):P:=h
def sD(h:P:=by
 have ZP:=Zf (show true=R by
  rw[←hs.out,List.drop_of_length_le asV];rfl)
 clear hs ZC hk;go_wp2;go_ret;exact⟨congrArg (fun z=>Zd (Zy z)) ZP.out,asO⟩):P:=h
def sE(h:P:=by
 obtain rfl:k=n:=asB;exact sD):P:=h
def amp(h:P:=by
 obtain⟨k,hk,rfl,hs,y,rfl⟩:=hrel;by_cases ZC:k<n
 ·obtain⟨e,he⟩:=Yq args k asG
  obtain⟨a,hap,hc⟩:=Wf.out k e he;have ZV:e∈args:=Zo he;have hew:=YW Ex.wt args e ZV;have ZQ:(e.there (YP p act)&&(args.drop (k+1)).all (Ex.there (YP p act)))=R:=by rw[←xB _ args k e he];exact hs.out
  have Xw:=Wo.of_plus (fun W2 (XJ:∃y,W2=plus W y)=>ih'.out e ZV W2 (by obtain⟨y,h⟩:=XJ;rw[h,ZN.out,ZD];exact VR.out.plus _) (by obtain⟨y,h⟩:=XJ;rw[h,ZN.out,ZD];exact (Sf.out e ZV).plus _) atJ);have Yo:∀y,Yg (plus W y) (a.add (k*9)) e.cells:=fun y=>aua;obtain⟨Z,hZ⟩:=ZB (e.there (YP p act));rw[hZ]at Xw ZQ;obtain⟨eop,⟨elw,elh,ell⟩,ehd,enm,eeh,eel,eep,ecap,eargs⟩:=e;open Z renaming aek→Gq in exact EQ
 ·exact sE):P:=h
def Hc(h:P:=by
 go_loopw [7] (fun iv wr=>∃k:Nat,k≤n∧iv=.int .i64 (k:Int)∧Hid ((args.drop k).all (Ex.there (YP p act))=R)∧∃y,wr=plus W y) (fun iv _=>n-(intOf iv).toNat)
 case atStart=>exact⟨0,Zw _,rfl,YM,_,(by first|rfl|exact ZD _ _ _|exact (Yk _).symm)⟩
 case round =>
  exact amp):P:=h
def sF(h:P:=by
 go_wp2;exact Hc):P:=h
def sG(h:P:=by
 rw[hp]at h1 h2 ⊢;exact eM _ _ _ _ _ _ _ _ _ _ _ _ _ _ _ _ _ _ _ _ _ _ _ _ _ _ _ _ _ _ _ _ _ _ _ _ _ _ _ _ _ _ (k) (ZC) (hc1) (h1) (h2) (h3)):P:=h
def sH(h:P:=by
 obtain⟨z,rfl⟩:=id hU;exact⟨g0 z,g1 z,g2 z,g3 z,g4 z,g5 z,g6 z,c8 z,d0 z,d1 z,d2 z,d3 z,d4 z,d5 z,d6 z,d7 z,d8 z,hU⟩):P:=h
def sI(h:P:=by
 rw[hV];clear hV;exact bodyPost_ret (v:=.tuple #[.agg #[.int .i64 0,.bool false,.bool false],.int .i64 _]) atY rfl ⟨rfl,hzz⟩):P:=h
def sK(h:P:=by
 rw[hV];clear hV;exact bodyPost_ret (v:=.tuple #[.agg #[.int .i64 rw,.bool rt,.bool rf],.int .i64 RE]) atY rfl ⟨rfl,hzz⟩):P:=h
def sL(h:P:=by
 obtain⟨V,hV,v0,v1,v2,hzz⟩:=VC hE.out (w.heap.size+1+1) asB _ _ _ _ (.int .i64 rw) (.bool rt) (.bool rf) r0 r1 r2;exact sK):P:=h
def sN(h:P:=by
 injection h with h1 h2
 injection h2 with h3 h4 h5
 exact⟨h1,h3,h4,h5⟩):P:=h
def sO(h:P:=by
 go_ret;exact⟨congrArg (fun z=>Zd (Zz .i64 z)) hF.out,att⟩):P:=h
def sP(h:P:=by
 clear hL';go_wp2_with (first|(go_at_call 122;with_reducible refine (q1.out _).mono ?_;rintro r w' ⟨rfl,x,rfl⟩));exact sO):P:=h
def sQ(h:P:=by
 clear hL';go_wp2;exact sO):P:=h
def DD(h:P:=by
 go_ret;exact⟨congrArg (fun z=>Zd (Zz .i64 z)) hF.out,by obtain⟨z,hz⟩:=ZG.out;rw[hz,ZD];exact⟨_,rfl⟩⟩):P:=h
def Hd(h:P:=by
 clear ZR;go_wp2;exact DD):P:=h
def sR(h:P:=by
 have b1:(R1 !=0)=true:=by simpa using VV
 have hF:=Zf (show (R1:Int)=R by have:=ZR.out;simpa [VV]using this);exact Hd):P:=h
def sS(h:P:=by
 clear ZR;go_wp2_with (first|(go_at_call 121;with_reducible refine (q3.out _).mono ?_;rintro r w' ⟨rfl,x,rfl⟩));exact DD):P:=h
def sT(h:P:=by
 go_ret;exact⟨congrArg (fun z=>Zd (Zz .i64 z)) hF.out,auw⟩):P:=h
def Kf(h:P:=by
 clear ZR;go_wp2;exact sT):P:=h
def sU(h:P:=by
 refine wpQuiet_nil ?_;rintro _ ⟨y7,rfl⟩;have hF:=Zf (show (R0:Int)=R by have:=ZR.out;simpa using this);exact Kf):P:=h
def sW(h:P:=by
 have b:(R1==0)=false:=by simpa using VV
 have hF:=Zf (show (R1:Int)=R by have:=ZR.out;simpa [VV]using this);exact Kf):P:=h
def sX(h:P:=by
 have hF:=Zf (show (0:Int)=R by have:=ZR.out;simpa using this);exact Kf):P:=h
def sY(h:P:=by
 clear ZR;go_wp2_with (first|(go_at_call 121;with_reducible refine (q3.out _).mono ?_;rintro r w' ⟨rfl,x,rfl⟩));exact sT):P:=h
def sZ(h:P:=by
 rw[if_neg YH]at Vf;have T0:(L1 !=0)=true:=by simpa using YH
 go_wp2;go_ret;exact⟨congrArg (fun z=>Zd (Zz .i64 z)) ((Qk _ k L1 Vf.out hJ.out asF).symm.trans ZR.out),aux⟩):P:=h
def re(h:P:=by
 go_ret;exact⟨rfl,as6⟩):P:=h
def rj(h:P:=by
 go_wp2;go_roundw
 case rel=>exact⟨k+1,Ub,congrArg (Zz .i64) a6.out,⟨_,rfl⟩,Zf (fun j y hj hy=>by
   by_cases UQ:j<k
   ·exact hJ.out j y UQ hy
   ·obtain rfl:j=k:=by omega
    rw[Vf.out]at hy;exact (Option.some.inj hy).symm)⟩
 case measure=>exact Y9 k n Ub a6.out):P:=h
def He(h:P:=by
 go_ret;exact⟨congrArg (fun z=>Zd (Zz .i64 z)) hv.out,asK⟩):P:=h
def rm(h:P:=by
 go_wp2_with (first|(go_at_call 180;with_reducible refine (qh2.out _).mono ?_;rintro r w' ⟨rfl,x,rfl⟩));exact He):P:=h
def ro(h:P:=by
 replace hv:=Zf hv;exact rm):P:=h
def Kg(h:P:=by
 go_wp2_with (fail);exact He):P:=h
def PL(h:P:=by
 replace hv:=Zf hv;exact Kg):P:=h
def rp(h:P:=by
 clear i1;exact PL):P:=h
def amq(h:P:=by
 rw[if_neg i1]at hv;have i2:(I==(k:Int))=false:=by simpa using i1
 exact rp):P:=h
def Hf(h:P:=by
 by_cases i1:I=(k:Int)
 ·rw[if_pos i1]at hv
  subst i1;exact PL
 ·exact amq):P:=h
def amr(h:P:=by
 rw[if_neg i1]at hv;have i2:(I==(j:Int))=false:=by simpa using i1
 exact rp):P:=h
def rq(h:P:=by
 by_cases i1:I=(j:Int)
 ·rw[if_pos i1]at hv
  subst i1;exact PL
 ·exact amr):P:=h
def Hg(h:P:=by
 go_ret;exact⟨congrArg (fun z=>Zd (Zy z)) hv.out,asK⟩):P:=h
def DE(h:P:=by
 go_wp2_with (fail);exact Hg):P:=h
def ru(h:P:=by
 replace hv:=Zf hv;exact DE):P:=h
def rv(h:P:=by
 rw[if_neg i4]at hv;exact PL):P:=h
def ry(h:P:=by
 go_wp2_with (first|(go_at_call 44;with_reducible refine (qh1.out _).mono ?_;rintro r w' ⟨rfl,x,rfl⟩)|(go_at_call 179;with_reducible refine (qh2.out _).mono ?_;rintro r w' ⟨rfl,x,rfl⟩));exact He):P:=h
def rz(h:P:=by
 refine wpQuiet_nil ?_;rintro _ ⟨y13,rfl⟩;exact DE):P:=h
def rA(h:P:=by
 go_wp2_with (first|(go_at_call 111;with_reducible refine (qN.out _).mono ?_;rintro r w' ⟨rfl,x,rfl⟩));exact Hg):P:=h
def rB(h:P:=by
 refine wpQuiet_nil ?_;rintro _ ⟨y13,rfl⟩;exact rA):P:=h
def rC(h:P:=by
 replace hv:=Zf hv;go_wp2_with (first|(go_at_call 178;with_reducible refine (q4.out _).mono ?_;rintro r w' ⟨rfl,x,rfl⟩));exact Hg):P:=h
def rD(h:P:=by
 replace hv:=Zf hv;open Z renaming Hg→GV in exact Dt):P:=h
def ams(h:P:=by
 have i2:0≤I1:=asB;have i3:(I1 !=-1)=true:=atV;rw[i3]at hv;clear i3;exact rD):P:=h
def rE(h:P:=by
 rcases g1.out with i1|i1
 ·subst i1
  exact rD
 ·exact ams):P:=h
def O1(h:P:=by
 open Z renaming ah9→Jd in exact IH):P:=h
def DF(h:P:=by
 open Z renaming aia→Jd in exact IH):P:=h
def DG(h:P:=by
 open Z renaming aib→Jd in exact IH):P:=h
def rF(h:P:=by
 cases b with
 | true =>
  replace hv:=Zf hv;go_wp2_with (first|(go_at_call 112;with_reducible refine (qh1.out _).mono ?_;rintro r w' ⟨rfl,x,rfl⟩));go_ret;exact⟨congrArg (fun z=>Zd (Zz .i64 z)) hv.out,asK⟩
 | false =>
  replace hv:=Zf hv;go_wp2_with (first|(go_at_call 112;with_reducible refine (qh1.out _).mono ?_;rintro r w' ⟨rfl,x,rfl⟩));go_ret;exact⟨congrArg (fun z=>Zd (Zz .i64 z)) hv.out,asK⟩):P:=h
def rG(h:P:=by
 rcases List.mem_cons.1 hm with rfl|hm
 ·cases e
 ·obtain⟨j,hj,rfl⟩:=UY hm
  cases e):P:=h
def DH(h:P:=by
 clear hR;go_enter func169,ntmps169;exact MD):P:=h
def rH(h:P:=by
 clear hR;have h0:=Zf h0;have h1:=Zf h1;go_enter func175,ntmps175;go_wp2_with fail;obtain⟨W,yy,hW,⟨z,hz⟩,cb0⟩:=YO V _ 42;rw[hW];have c0_0:=cb0 0 _ rfl;have c0_1:=cb0 1 _ rfl;have c0_2:=cb0 2 _ rfl;open Z renaming afP→Lh in exact L0):P:=h
def Hh(h:P:=by
 clear hR;have h0:=Zf h0;go_enter func170,ntmps170;exact D4):P:=h
def DI(h:P:=by
 go_enter func220,ntmps220;go_wp2_with fail;go_ret;exact⟨congrArg (fun z=>Zd (Zy z)) hF.out,by first|exact MQ _ _|exact MR _ _ _⟩):P:=h
def DJ(h:P:=by
 clear hR;clear h0;exact DI):P:=h
def rJ(h:P:=by
 open Z renaming DJ→Vg in exact Vk):P:=h
def rK(h:P:=by
 open Z renaming rJ→Ja in exact IA):P:=h
def rL(h:P:=by
 open Z renaming DJ→SI in exact SV):P:=h
def rM(h:P:=by
 open Z renaming rL→K9 in exact Iz):P:=h
def rN(h:P:=by
 go_ret;exact⟨congrArg (fun z=>Zd (Zy z)) hF.out,auy⟩):P:=h
def rO(h:P:=by
 refine (q0c.out _).mono ?_;rintro r w' ⟨rfl,x1,rfl⟩;go_wp2_with fail;exact rN):P:=h
def Hi(h:P:=by
 clear hR;have h0:=Zf h0;go_enter func220,ntmps220;go_wp2_with fail;obtain⟨W,yy,hW,⟨z,hz⟩,cb0,cb1⟩:=Xu V _ _ 45 42;open Z renaming aqQ→QW in exact Q5):P:=h
def DK(h:P:=by
 open Z renaming DJ→WV in exact WX):P:=h
def rP(h:P:=by
 have h0:=Zf h0;go_enter func220,ntmps220;go_wp2_with fail;obtain⟨W,yy,hW,⟨z,hz⟩,cb0⟩:=YO V _ 45;open Z renaming aqR→QW in exact Q5):P:=h
def O2(h:P:=by
 clear hR;have h0:=Zf h0;have h1:=Zf h1;go_enter func220,ntmps220;go_wp2_with fail;obtain⟨W,yy,hW,⟨z,hz⟩,cb0⟩:=YO V _ 45;open Z renaming aqS→QW in exact Q5):P:=h
def DL(h:P:=by
 clear hR;clear h0 h1;exact DI):P:=h
def O3(h:P:=by
 clear hR;exact rP):P:=h
def amt(h:P:=by
 open Z renaming O3→SI in exact SV):P:=h
def amu(h:P:=by
 by_cases q4:(a1==0)=true
 case neg =>
  have q4:(a1==0)=false:=atf;open Z renaming O3→NQ in exact Mv
 case pos =>
  by_cases q5:(a2==0)=true
  case neg =>
   have q5:(a2==0)=false:=atn;open Z renaming O3→Lm in exact L7
  case pos =>
   by_cases q6:(a3==0)=true
   case neg =>
    open Z renaming O3→Gy in exact E6
   case pos =>
    by_cases q7:(a6==0)=true
    case neg =>
     have q7:(a6==0)=false:=by simpa using q7
     open Z renaming O3→GY in exact Dw
    case pos =>
     by_cases q8:(a7==0)=true
     case neg =>
      have q8:(a7==0)=false:=by simpa using q8
      open Z renaming O3→GU in exact Ds
     case pos =>
      open Z renaming O3→GW in exact Du):P:=h
def rR(h:P:=by
 cases s0
 case false =>
  exact amt
 case true =>
  exact amu):P:=h
def rS(h:P:=by
 open Z renaming ai5→SK in exact SX):P:=h
def Qd(h:P:=by
 clear hR;exact DI):P:=h
def rT(h:P:=by
 open Z renaming ahy→Ja in exact IA):P:=h
def rU(h:P:=by
 open Z renaming ag3→K9 in exact Iz):P:=h
def rV(h:P:=by
 have q4:(a1==0)=false:=atf;open Z renaming Qd→NQ in exact Mv):P:=h
def rW(h:P:=by
 have q5:(a2==0)=false:=atn;open Z renaming Qd→Lm in exact L7):P:=h
def rY(h:P:=by
 open Z renaming Qd→Gy in exact E6):P:=h
def rZ(h:P:=by
 open Z renaming Qd→GY in exact Dw):P:=h
def qa(h:P:=by
 open Z renaming Qd→GU in exact Ds):P:=h
def amv(h:P:=by
 open Z renaming ak9→NU in exact Mz):P:=h
def DN(h:P:=by
 by_cases q2:(a4.toList==[])=true
 case neg =>
  exact rT
 case pos =>
  exact amv):P:=h
def Hj(h:P:=by
 open Z renaming Qd→WV in exact WX):P:=h
def DP(h:P:=by
 intro y0;obtain⟨V,hV⟩:=ZB (plus w y0);rw[hV]at ⊢;clear hV;obtain⟨R,hR⟩:=ZB ((!((a8n:Int) !=1))&&((a4.toList==[])&&((a5.toList==[])&&(((a1==0)&&((a2==0)&&(a3==0)))&&((a6==0)&&(a7==0))))));rw[hR];by_cases q1:((a8n:Int) !=1)=true
 case neg =>
  have q1:((a8n:Int) !=1)=false:=asJ;exact DN
 case pos =>
  exact Hj):P:=h
def qd(h:P:=by
 obtain⟨R,hR⟩:=ZB (false);rw[hR];open Z renaming adn→Xy in exact Xz):P:=h
def qg(h:P:=by
 simp only[bne];cases ((lw==0)&&((lh==0)&&(ll==0))) <;> cases (hd.toList==[]) <;> cases (!(nm.toList==[])&&YK nm) <;> cases ((eh==0)&&(el==0)) <;> cases ((args.length:Int)==0) <;> rfl):P:=h
def DQ(h:P:=by
 simp only[bne];cases ((lw==0)&&((lh==0)&&(ll==0))) <;> cases (hd.toList==[]) <;> cases (nm.toList==[]) <;> cases ((eh==0)&&(el==0)) <;> cases ((args.length:Int)==1) <;> rfl):P:=h
def qi(h:P:=by
 go_wp2_with fail;go_meet;exact⟨congrArg Zy hF.out,yy,rfl⟩):P:=h
def O4(h:P:=by
 by_cases q1:(a3 !=0)=true
 case pos =>
  have hF:=Zf (show true=E by rw[←Wc.out,q1];rfl);exact qi
 case neg =>
  have q1:(a3 !=0)=false:=asJ;by_cases q2:(0:Int)<(a11n:Int)
  case pos =>
   have hF:=Zf (show true=E by rw[←Wc.out,q1,decide_eq_true q2];rfl);exact qi
  case neg =>
   have hF:=Zf (show (!s0)=E by rw[←Wc.out,q1,decide_eq_false q2];rfl);have q2z:a11n=0:=asB;subst q2z;go_wp2_with fail;refine (q0c.out _).mono ?_;rintro r w' ⟨rfl,x1,rfl⟩;go_wp2_with fail;go_meet;exact⟨congrArg Zy hF.out,x1,rfl⟩):P:=h
def qj(h:P:=by
 go_wp2_with fail;go_meet;first|exact⟨congrArg Zy hF.out,rfl⟩|exact⟨congrArg Zy (Eq.trans asM hF.out),rfl⟩):P:=h
def O6(h:P:=by
 by_cases q1:(0:Int)<(a12n:Int)
 case pos =>
  have hF:=Zf (show true=B by rw[←XI.out,decide_eq_true q1];rfl);go_wp2_with fail;go_meet;exact⟨congrArg Zy hF.out,rfl⟩
 case neg =>
  by_cases q2:(0:Int)<(a13n:Int)
  case pos =>
   have hF:=Zf (show true=B by rw[←XI.out,decide_eq_false q1,decide_eq_true q2];rfl);have q1z:a12n=0:=asB;subst q1z;exact qj
  case neg =>
   have hF:=Zf (show false=B by rw[←XI.out,decide_eq_false q1,decide_eq_false q2];rfl);have q1z:a12n=0:=asB;subst q1z;have q2z:a13n=0:=asB;subst q2z;exact qj):P:=h
def DR(h:P:=by
 go_wp2_with (fail);exact XO):P:=h
def Hk(h:P:=by
 clear hR;exact DR):P:=h
def DS(h:P:=by
 open Z renaming Hk→Xy in exact Xz):P:=h
def ql(h:P:=by
 go_wp2_with (first|(go_at_call 104;with_reducible refine (q1c.out _).mono ?_;rintro r w' ⟨rfl,x,rfl⟩));exact XO):P:=h
def qn(h:P:=by
 clear hR;go_wp2_with (first|(go_at_call 104;with_reducible refine (q1c.out _).mono ?_;rintro r w' ⟨rfl,x,rfl⟩)|(go_at_call 104;with_reducible refine (q2c.out _).mono ?_;rintro r w' ⟨rfl,x,rfl⟩)|(go_at_call 174;with_reducible refine (q3c.out _).mono ?_;rintro r w' ⟨rfl,x,rfl⟩));exact XO):P:=h
def qo(h:P:=by
 clear hR;clear q2c;go_wp2_with (first|(go_at_call 104;with_reducible refine (q1c.out _).mono ?_;rintro r w' ⟨rfl,x,rfl⟩)|(go_at_call 174;with_reducible refine (q3c.out _).mono ?_;rintro r w' ⟨rfl,x,rfl⟩));exact XO):P:=h
def DT(h:P:=by
 clear hR;clear q1c q2c q3c;exact DR):P:=h
def qp(h:P:=by
 go_wp2_with (first|(go_at_call 174;with_reducible refine (q1c.out _).mono ?_;rintro r w' ⟨rfl,x,rfl⟩));exact XO):P:=h
def qq(h:P:=by
 clear hR;go_wp2_with (first|(go_at_call 174;with_reducible refine (q1c.out _).mono ?_;rintro r w' ⟨rfl,x,rfl⟩)|(go_at_call 107;with_reducible refine (q2c.out _).mono ?_;rintro r w' ⟨rfl,x,rfl⟩)|(go_at_call 107;with_reducible refine (q3c.out _).mono ?_;rintro r w' ⟨rfl,x,rfl⟩));exact XO):P:=h
def DU(h:P:=by
 clear hR;clear q1c;exact DR):P:=h
def qr(h:P:=by
 open Z renaming DU→WV in exact WX):P:=h
def qu(h:P:=by
 open Z renaming qr→GH in exact Di):P:=h
def qx(h:P:=by
 clear hR;exact qp):P:=h
def Kh(h:P:=by
 open Z renaming DU→Xy in exact Xz):P:=h
def qz(h:P:=by
 clear hR;exact ql):P:=h
def amw(h:P:=by
 open Z renaming qz→WV in exact WX):P:=h
def amx(h:P:=by
 open Z renaming qz→SJ in exact SW):P:=h
def qB(h:P:=by
 cases s1
 case false =>
  exact amw
 case true =>
  exact amx):P:=h
def qD(h:P:=by
 open Z renaming aeg→Sk in exact Sp):P:=h
def qE(h:P:=by
 go_ret;exact⟨rfl,auy⟩):P:=h
def qF(h:P:=by
 open Z renaming aoR→G8 in exact DZ):P:=h
def amy(h:P:=by
 have c0:(b0 !=1)=false:=by simpa using c0
 by_cases c1:(b1 !=0)=true
 case pos =>
  exact qF
 case neg =>
  have c1:(b1 !=0)=false:=by simpa using c1
  have c2:(0:Int)<k:=by
   have d0:b0=1:=by simpa using c0
   have d1:b1=0:=by simpa using c1
   rw[d0,d1]at hb;simp at hb;omega
  open Z renaming aoQ→G8 in exact DZ):P:=h
def qG(h:P:=by
 clear W8;by_cases c0:(b0 !=1)=true
 case pos =>
  exact qF
 case neg =>
  exact amy):P:=h
def amz(h:P:=by
 obtain⟨k,hk,rfl,hs,y,rfl⟩:=hrel;by_cases ZC:k<2
 ·obtain⟨a,ha⟩:=Yq args k asG
  obtain⟨pa2,hpe,hc⟩:=Wf.out k a ha;obtain rfl:=Option.some.inj hpe;clear hpe;open Z renaming ae6→BU in exact vk
 ·obtain rfl:k=2:=by omega
  exact sD):P:=h
def qJ(h:P:=by
 clear W8;open Z renaming ale→A8 in exact tF):P:=h
def qK(h:P:=by
 clear hR;have h0:=Zf h0;have h1:=Zf h1;go_enter func174,ntmps174;go_wp2_with fail;obtain⟨W,yy,hW,⟨z,hz⟩,cb0⟩:=YO V _ 45;open Z renaming aqT→QW in exact Q5):P:=h
def PN(h:P:=by
 clear hR;go_enter func172,ntmps172;exact Q4):P:=h
def qL(h:P:=by
 have h0:=Zf h0;go_enter func172,ntmps172;go_wp2_with fail;obtain⟨W,yy,hW,⟨z,hz⟩,cb0,cb1⟩:=Xu V _ _ 162 42;open Z renaming af0→NP in exact Mu):P:=h
def Ki(h:P:=by
 clear hR;exact qL):P:=h
def qO(h:P:=by
 clear hR;have h0:=Zf h0;have h1:=Zf h1;go_enter func172,ntmps172;go_wp2_with fail;obtain⟨W,yy,hW,⟨z,hz⟩,cb0,cb1⟩:=Xu V _ _ 162 42;open Z renaming af1→NP in exact Mu):P:=h
def qP(h:P:=by
 intro y0;obtain⟨V,hV⟩:=ZB (plus w y0);rw[hV]at ⊢;clear hV;obtain⟨R,hR⟩:=ZB (false);rw[hR];open Z renaming ado→Xy in exact Xz):P:=h
def DV(h:P:=by
 cases B <;> cases L <;> cases M <;> cases x <;> cases y <;> cases z <;> simp):P:=h
def qQ(h:P:=by
 generalize (hd.toList==[])=z;exact DV):P:=h
def qR(h:P:=by
 generalize (nm.toList==[])=y;exact qQ):P:=h
def qT(h:P:=by
 rw[hN];have:=Ly n thn els (YK hd&&(nm.toList==[])) (Ex.same (.mk op ⟨lw,lh,ll⟩ eh en ei el ep ecap args) Vl);open Z renaming acU→Lb in exact LR):P:=h
def qU(h:P:=by
 have hF:=Zf (show (true)=C by rw[←YY.out,←WJ.out];simp);open Z renaming aj6→Lp in exact Ka):P:=h
def qV(h:P:=by
 go_meet;first|exact⟨congrArg Zy hF.out,_,rfl⟩|exact⟨congrArg Zy (Eq.trans (by simp[q1]) hF.out),_,rfl⟩):P:=h
def qW(h:P:=by
 have hF:=Zf (show (true)=C by rw[←YY.out,←WJ.out];simp[q1]);open Z renaming qV→Lp in exact Ka):P:=h
def DW(h:P:=by
 go_meet;first|exact⟨congrArg Zy hF.out,_,rfl⟩|exact⟨congrArg Zy (Eq.trans (by simp[q1,q2,q3,q4]) hF.out),_,rfl⟩):P:=h
def qX(h:P:=by
 open Z renaming aik→Au in exact uk):P:=h
def qY(h:P:=by
 clear hR;clear h1 h2;have h0:=Zf h0;go_enter func106,ntmps106;go_wp2_with fail;obtain⟨W,yy,hW,⟨z,hz⟩,cb0⟩:=YO V _ 61;open Z renaming Hp→NP in exact Mu):P:=h
def Hm(h:P:=by
 clear hR;have h0:=Zf h0;have h1:=Zf h1;have h2:=Zf h2;go_enter func106,ntmps106;go_wp2_with fail;obtain⟨W,yy,hW,⟨z,hz⟩,cb0⟩:=YO V _ 61;open Z renaming af2→NP in exact Mu):P:=h
def qZ(h:P:=by
 open Z renaming qV→AR in exact uX):P:=h
def pd(h:P:=by
 go_wp2_with (fail);go_meet;first|exact⟨congrArg Zy hF.out,rfl⟩|exact⟨congrArg Zy (Eq.trans (by simp[q0,q1,q2,q3,q4,q5,q6]) hF.out),rfl⟩):P:=h
def pg(h:P:=by
 go_ret2;exact⟨rfl,by rw[hzU'.out,ZD];exact⟨_,rfl⟩⟩):P:=h
def amA(h:P:=by
 cases it <;> exact⟨_,_,_,_,_,_,_,_,_,_,_,_,_,_,_,_,_,rfl⟩):P:=h
def ph(h:P:=by
 repeat (go_big_quiet_step (first|(with_reducible exact q1.out _)))
 refine wpQuiet_nil ?_;rintro _ ⟨y2,rfl⟩;go_wp2;go_roundw
 case rel=>exact⟨k+1,ZC,congrArg (Zz .i64) a6.out,ZP,_,rfl⟩
 case measure=>exact Y9 k n ZC a6.out):P:=h
def pi(h:P:=by
 go_wp2;go_ret2;exact⟨by rw[←ZP.out];simp,by obtain⟨z,h⟩:=NH.out;rw[h,hzU'.out,ZD,ZD];exact⟨_,rfl⟩⟩):P:=h
def pj(h:P:=by
 repeat (go_big_quiet_step (first|(with_reducible exact q1.out _)))
 refine wpQuiet_nil ?_;rintro _ ⟨y2,rfl⟩;exact pi):P:=h
def pl(h:P:=by
 rw[ZO.out]at ZP;clear hs ZC hk;exact pi):P:=h
def Wn(h:P:=by
 go_upto_region 1 with (fail)
 obtain⟨W,yy,hW,⟨z,ZG⟩,cp,ci⟩:=Xu V _ _ 30 49;rw[hW];open Z renaming aeB→K0 in exact Ir):P:=h
def amB(h:P:=by
 have qh1:=Zf (ZK ZG YA.out);have ZY:=Zf ZG;clear hW ZG cp ci YA;open Z renaming ab4→TT in exact TZ):P:=h
def amC(h:P:=by
 open Z renaming aiv→OC in exact O0):P:=h
def amD(h:P:=by
 open Z renaming aiw→OC in exact O0):P:=h
def amE(h:P:=by
 have Yv:=YR ZG Yo.out;open Z renaming ao9→Rk in exact Ru):P:=h
def amF(h:P:=by
 have Yv:=YR ZG Yo.out;open Z renaming apa→Rk in exact Ru):P:=h
def amG(h:P:=by
 have Yv:=YR ZG Yo.out;open Z renaming apb→Rk in exact Ru):P:=h
def amH(h:P:=by
 have Yv:=YR ZG Yo.out;open Z renaming apc→Rk in exact Ru):P:=h
def amI(h:P:=by
 open Z renaming aix→OC in exact O0):P:=h
def amJ(h:P:=by
 open Z renaming aiy→OC in exact O0):P:=h
def amK(h:P:=by
 have qh1:=Zf (ZK ZG YA.out);have ZY:=Zf ZG;clear hW ZG cp ci YA;open Z renaming ab9→TT in exact TZ):P:=h
def amL(h:P:=by
 have Yv:=YR ZG Yo.out;open Z renaming apd→Rk in exact Ru):P:=h
def amM(h:P:=by
 have Yv:=YR ZG Yo.out;open Z renaming ape→Rk in exact Ru):P:=h
def amN(h:P:=by
 have Yv:=YR ZG Yo.out;open Z renaming apf→Rk in exact Ru):P:=h
def amO(h:P:=by
 have Yv:=YR ZG Yo.out;open Z renaming apg→Rk in exact Ru):P:=h
def amP(h:P:=by
 have Yv:=YR ZG Yo.out;have d0:=fun y=>(Yv.plus y).c0 _ rfl;simp only[Nat.mul_one]at d0;open Z renaming af7→Oz in exact OX):P:=h
def amQ(h:P:=by
 open Z renaming aiz→OC in exact O0):P:=h
def amR(h:P:=by
 open Z renaming aiA→OC in exact O0):P:=h
def amS(h:P:=by
 have Yv:=YR ZG Yo.out;open Z renaming aph→Rk in exact Ru):P:=h
def amT(h:P:=by
 have Yv:=YR ZG Yo.out;open Z renaming adD→Ld in exact LU):P:=h
def amU(h:P:=by
 have Yv:=YR ZG Yo.out;open Z renaming api→Rk in exact Ru):P:=h
def amV(h:P:=by
 open Z renaming aiB→OC in exact O0):P:=h
def amW(h:P:=by
 have Yv:=YR ZG Yo.out;open Z renaming adE→Ld in exact LU):P:=h
def amX(h:P:=by
 open Z renaming abI→NJ in exact Mp):P:=h
def amY(h:P:=by
 open Z renaming abJ→NJ in exact Mp):P:=h
def amZ(h:P:=by
 have Yv:=YR ZG Yo.out;have d0:=fun y=>(Yv.plus y).c0 _ rfl;simp only[Nat.mul_one]at d0;open Z renaming af9→Oz in exact OX):P:=h
def am0(h:P:=by
 open Z renaming abK→NJ in exact Mp):P:=h
def am1(h:P:=by
 open Z renaming abL→NJ in exact Mp):P:=h
def am2(h:P:=by
 open Z renaming abM→NJ in exact Mp):P:=h
def am3(h:P:=by
 open Z renaming abN→NJ in exact Mp):P:=h
def am4(h:P:=by
 have Yv:=YR ZG Yo.out;open Z renaming apj→Rk in exact Ru):P:=h
def am5(h:P:=by
 have qh1:=Zf (ZK ZG YA.out);have ZY:=Zf ZG;clear hW ZG cp ci YA;replace hv:=hv.out;by_cases s1:ZU=3
 ·subst s1
  by_cases s2:0≤ka
  ·rw[if_pos ⟨rfl,s2⟩]at hv
   replace hv:=Zf hv;go_wp2_with (first|(go_at_call 112;with_reducible refine (qh1.out _).mono ?_;rintro r w' ⟨rfl,x,rfl⟩));exact He
  ·rw[if_neg (fun h=>s2 h.2)]at hv
   have s3:ka<0:=asB;exact rF
 ·rw[if_neg (fun h=>s1 h.1)]at hv
  have s3:(ZU==3)=false:=by simpa using s1
  clear s1;exact rF):P:=h
def am6(h:P:=by
 have qh1:=Zf (ZK ZG YA.out);have ZY:=Zf ZG;clear hW ZG cp ci YA;go_wp2_with (first|(go_at_call 114;with_reducible refine (qh1.out _).mono ?_;rintro r w' ⟨rfl,x,rfl⟩));exact Uk):P:=h
def am7(h:P:=by
 have qh1:=Zf (ZK ZG YA.out);have ZY:=Zf ZG;clear hW ZG cp ci YA;go_wp2_with (first|(go_at_call 113;with_reducible refine (qh1.out _).mono ?_;rintro r w' ⟨rfl,x,rfl⟩));exact Uk):P:=h
def am8(h:P:=by
 have qh1:=Zf (ZK ZG YA.out);have ZY:=Zf ZG;clear hW ZG cp ci YA;cases b with
 | true =>
  go_wp2_with (first|(go_at_call 110;with_reducible refine (qh1.out _).mono ?_;rintro r w' ⟨rfl,x,rfl⟩));go_ret;exact⟨rfl,asK⟩
 | false =>
  go_wp2_with (first|(go_at_call 110;with_reducible refine (qh1.out _).mono ?_;rintro r w' ⟨rfl,x,rfl⟩));go_ret;exact⟨rfl,asK⟩):P:=h
def PO(h:P:=by
 have g4:=kg 4 _ rfl;have g5:=kg 5 _ rfl;have g6:=kg 6 _ rfl;have wg:=Zf (show ∃z,Ug=plus W z from⟨_,gg⟩);have wg':=wg;clear hUg bUg kg zg gg;obtain⟨Uc,hUc,bUc,nUc,kc,zc⟩:=WS Ug _ 45;rw[←hUc];obtain⟨ec,gc⟩:=Yy bUc;rw[nUg]at kc zc;have g0:=ZM gc g0;have g1:=ZM gc g1;have g2:=ZM gc g2;have g3:=ZM gc g3;have g4:=ZM gc g4;have g5:=ZM gc g5;have g6:=ZM gc g6;have c0:=kc 0 _ rfl;have c1:=kc 1 _ rfl;have c2:=kc 2 _ rfl;have c3:=kc 3 _ rfl;have c4:=kc 4 _ rfl;have c5:=kc 5 _ rfl;have c6:=kc 6 _ rfl;have c7:=kc 7 _ rfl;have c8:=kc 8 _ rfl;have wc:=Zf (show ∃z,Uc=plus W z from by obtain⟨z,h⟩:=wg'.out;rw[gc,h,ZD];exact⟨_,rfl⟩);have wc':=wc;clear hUc bUc kc zc gc;obtain⟨Ur,hUr,bUr,nUr,kr,zr⟩:=WS Uc _ 75;rw[←hUr];obtain⟨er,gr⟩:=Yy bUr;rw[nUc,nUg]at kr zr;have g0:=ZM gr g0;have g1:=ZM gr g1;have g2:=ZM gr g2;have g3:=ZM gr g3;have g4:=ZM gr g4;have g5:=ZM gr g5;have g6:=ZM gr g6;have c0:=ZM gr c0;have c1:=ZM gr c1;have c2:=ZM gr c2;have c3:=ZM gr c3;have c4:=ZM gr c4;have c5:=ZM gr c5;have c6:=ZM gr c6;have c7:=ZM gr c7;have c8:=ZM gr c8;have r0:=kr 0 _ rfl;have r1:=kr 1 _ rfl;have r2:=kr 2 _ rfl;have fr:=zr;have wr:=Zf (show ∃z,Ur=plus W z from by obtain⟨z,h⟩:=wc'.out;rw[gr,h,ZD];exact⟨_,rfl⟩);have wr':=wr;clear hUr bUr kr zr gr;clear nUg nUc nUr;obtain⟨zE,hzE0⟩:=wr.out;have SH:=Zf hzE0;have qh1:=Zf (ZK hzE0 YA.out);exact Pm):P:=h
def am9(h:P:=by
 clear hzE0 YA;rw[←Yk Ur];replace hb:=hb.out;go_wp2_with (first|(go_at_call 119;with_reducible refine (qh1.out _).mono ?_;rintro r w' ⟨rfl,x,rfl⟩));obtain⟨V,hV,g0,g1,g2,hz⟩:=VC SH.out (W.heap.size+1+1) asB _ _ _ _ (.int .i64 (lw)) (.bool false) (.bool b) r0 r1 r2;rw[hV];clear hV;exact bodyPost_ret (v:=.tuple #[.agg #[.int .i64 (lw),.bool false,.bool b],.int .i64 (0)]) atF rfl ⟨rfl,hz⟩):P:=h
def ana(h:P:=by
 have qh2:=Zf (ZK hzE0 Xg.out);have qh3:=Zf (ZK hzE0 VP.out);have Yv:=YR hzE0 Yo.out;have d0:=fun y=>(Yv.plus y).c0 _ rfl;have d1:=fun y=>(Yv.plus y).cs 0 _ rfl;clear Yv;clear hzE0 YA Xg VP Yo;rw[←Yk Ur];have Sg:¬((k:Int)<0):=asB;go_upto_region 8 with (first|(go_at_call 119;with_reducible refine (qh1.out _).mono ?_;rintro r w' ⟨rfl,x,rfl⟩))
 refine Wj 14 asC asC ?_;exact so):P:=h
def anb(h:P:=by
 have qh2:=Zf (ZK hzE0 Xg.out);have qh3:=Zf (ZK hzE0 VP.out);clear hzE0 YA Xg VP;rw[←Yk Ur];go_upto_region 10 with (first|(go_at_call 119;with_reducible refine (qh1.out _).mono ?_;rintro r w' ⟨rfl,x,rfl⟩))
 refine Wj 9 asC asC ?_;exact so):P:=h
def anc(h:P:=by
 have qh2:=Zf (ZK hzE0 Xg.out);clear hzE0 YA Xg;rw[←Yk Ur];go_wp2_with (first|(go_at_call 119;with_reducible refine (qh1.out _).mono ?_;rintro r w' ⟨rfl,x,rfl⟩)|(go_at_call 177;with_reducible refine (qh2.out _).mono ?_;rintro r w' ⟨rfl,x,rfl⟩));exact sg):P:=h
def ane(h:P:=by
 have qh2:=Zf (ZK hzE0 Xg.out);have qh3:=Zf (ZK hzE0 VP.out);have Yv:=YR hzE0 Yo.out;open Z renaming adF→Ld in exact LU):P:=h
def anf(h:P:=by
 clear hzE0 YA;rw[←Yk Ur];replace hI:=hI.out;go_wp2_with (first|(go_at_call 119;with_reducible refine (qh1.out _).mono ?_;rintro r w' ⟨rfl,x,rfl⟩));obtain⟨V,hV,g0,g1,g2,hz⟩:=VC SH.out (W.heap.size+1+1) asB _ _ _ _ (.int .i64 (0)) (.bool true) (.bool false) r0 r1 r2;rw[hV];clear hV;exact bodyPost_ret (v:=.tuple #[.agg #[.int .i64 (0),.bool true,.bool false],.int .i64 (0)]) atF rfl ⟨rfl,hz⟩):P:=h
def ang(h:P:=by
 clear hzE0 YA;rw[←Yk Ur];have m1:=o1.out;have m2:=o2.out;have m3:=o3.out;have m4:=o4.out;have m6:=o6.out;go_wp2_with (first|(go_at_call 119;with_reducible refine (qh1.out _).mono ?_;rintro r w' ⟨rfl,x,rfl⟩));obtain⟨V,hV,g0,g1,g2,hz⟩:=VC SH.out (W.heap.size+1+1) asB _ _ _ _ (.int .i64 (9)) (.bool false) (.bool false) r0 r1 r2;rw[hV];clear hV;exact bodyPost_ret (v:=.tuple #[.agg #[.int .i64 (9),.bool false,.bool false],.int .i64 (0)]) atF rfl ⟨rfl,hz⟩):P:=h
def anh(h:P:=by
 clear hzE0 YA;rw[←Yk Ur];go_wp2_with (first|(go_at_call 119;with_reducible refine (qh1.out _).mono ?_;rintro r w' ⟨rfl,x,rfl⟩));exact sg):P:=h
def WO(h:P:=by
 rw[hX];open Z renaming afL→K4 in exact Iu):P:=h
def ani(h:P:=by
 open Z renaming agK→K6 in exact Iw):P:=h
def anj(h:P:=by
 open Z renaming agL→K6 in exact Iw):P:=h
def ank(h:P:=by
 have hR:=Zf (VB ⟨zX,ZE⟩ (show V.heap.size≤V.heap.size+1+1 by omega) cc fc);have qhN:=Zf (ZK ZE Sz.out);have um1:=YR ZE m1'.out;have dm10:=fun y=>(um1.plus y).c0 _ rfl;have dm11:=fun y=>(um1.plus y).cs 0 _ rfl;clear um1;have um2:=YR ZE m2'.out;have dm20:=fun y=>(um2.plus y).c0 _ rfl;have dm21:=fun y=>(um2.plus y).cs 0 _ rfl;clear um2;have qk:=Zf (ZK ZE k'.out);have ZY:=Zf ZE;clear hX ca cb cc fc ZE Sz m1' m2' k';open Z renaming ab0→La in exact LQ):P:=h
def anl(h:P:=by
 open Z renaming agM→K6 in exact Iw):P:=h
def ann(h:P:=by
 open Z renaming agN→K6 in exact Iw):P:=h
def ano(h:P:=by
 open Z renaming afI→B7 in exact vA):P:=h
def anp(h:P:=by
 open Z renaming wN→B7 in exact vA):P:=h
def anq(h:P:=by
 open Z renaming aeI→Pk in exact PH):P:=h
def anr(h:P:=by
 open Z renaming aeJ→Pk in exact PH):P:=h
def ans(h:P:=by
 open Z renaming aeK→Pk in exact PH):P:=h
def ant(h:P:=by
 open Z renaming aeL→Pk in exact PH):P:=h
def anu(h:P:=by
 open Z renaming aeM→Pk in exact PH):P:=h
def anv(h:P:=by
 open Z renaming aeN→Pk in exact PH):P:=h
def anw(h:P:=by
 have qkt:=Zf (Xf ZE kt'.out);have hz:=Zf ZE;clear hX ca cb ZE kt';have kd:=Zf (qkt.out ⟨Y0.blocks,Y0.draws+1⟩);clear qkt;go_region_dies;all_goals
  refine kd.out.mono ?_;rintro r w' ⟨rfl,x1,rfl⟩;exact⟨rfl,rfl,att⟩):P:=h
def anx(h:P:=by
 have qkt:=Zf (Xf ZE kt'.out);have qkg:=Zf (Xf ZE kg'.out);have hz:=Zf ZE;clear hX ca cb ZE kt' kg';refine Wj 5 asC asC ?_;exact tT):P:=h
def anz(h:P:=by
 open Z renaming ahF→OA in exact OY):P:=h
def anA(h:P:=by
 open Z renaming ahG→OA in exact OY):P:=h
def anB(h:P:=by
 open Z renaming ako→GL in exact Dl):P:=h
def anC(h:P:=by
 open Z renaming akp→GL in exact Dl):P:=h
def anD(h:P:=by
 have qkt:=Zf (Xf ZE kt'.out);have qkg:=Zf (Tt (Ro ZE kg'.out));have hz:=Zf ZE;clear hX ca cb ZE kt' kg';go_wp2_with fail;refine (qkt.out _).mono ?_;rintro r w' ⟨rfl,x1,rfl⟩;clear qkt;go_upto_region 2 with (fail)
 obtain⟨X2,Y2,XP,⟨Xt,ZG⟩,cc⟩:=YO (plus X x1) #[.int .i64 tw,.bool false,.bool true] 75;rw[XP];have t0:=cc 0 _ rfl;have t1:=cc 1 _ rfl;have t2:=cc 2 _ rfl;replace b0:∀y,(plus X2 y).cell? ⟨V.heap.size+1,0,none⟩=some (.int .u8 op):=fun y=>by rw[ZG,ZD,ZD];exact b0 _
 replace b1:∀y,(plus X2 y).cell? ⟨V.heap.size+1,1,none⟩=some (.int .i64 lw):=fun y=>by rw[ZG,ZD,ZD];exact b1 _
 replace b2:∀y,(plus X2 y).cell? ⟨V.heap.size+1,2,none⟩=some (.int .u64 lh):=fun y=>by rw[ZG,ZD,ZD];exact b2 _
 replace b3:∀y,(plus X2 y).cell? ⟨V.heap.size+1,3,none⟩=some (.int .u64 ll):=fun y=>by rw[ZG,ZD,ZD];exact b3 _
 replace b4:∀y,(plus X2 y).cell? ⟨V.heap.size+1,4,none⟩=some (.string hd):=fun y=>by rw[ZG,ZD,ZD];exact b4 _
 replace b5:∀y,(plus X2 y).cell? ⟨V.heap.size+1,5,none⟩=some (.string nm):=fun y=>by rw[ZG,ZD,ZD];exact b5 _
 replace b6:∀y,(plus X2 y).cell? ⟨V.heap.size+1,6,none⟩=some (.int .i64 eh):=fun y=>by rw[ZG,ZD,ZD];exact b6 _
 replace b7:∀y,(plus X2 y).cell? ⟨V.heap.size+1,7,none⟩=some (.int .i64 el):=fun y=>by rw[ZG,ZD,ZD];exact b7 _
 replace b8:∀y,(plus X2 y).cell? ⟨V.heap.size+1,8,none⟩=some (.slice ep en ec):=fun y=>by rw[ZG,ZD,ZD];exact b8 _
 open Z renaming akx→GN in exact Dn):P:=h
def anE(h:P:=by
 open Z renaming ahH→OA in exact OY):P:=h
def anF(h:P:=by
 open Z renaming tU→OA in exact OY):P:=h
def anG(h:P:=by
 open Z renaming ahI→OA in exact OY):P:=h
def anH(h:P:=by
 open Z renaming ahJ→OA in exact OY):P:=h
def anI(h:P:=by
 open Z renaming ahK→OA in exact OY):P:=h
def anJ(h:P:=by
 have hR:=Zf (VB ⟨zX,ZE⟩ (show V.heap.size≤V.heap.size+1+1 by omega) cc fc);have qhN:=Zf (ZK ZE Sz.out);have qk:=Zf (ZK ZE k'.out);have ZY:=Zf ZE;clear hX ca cb cc fc ZE Sz k';open Z renaming ab3→La in exact LQ):P:=h
def anK(h:P:=by
 open Z renaming aeO→Pk in exact PH):P:=h
def anL(h:P:=by
 open Z renaming aeP→Pk in exact PH):P:=h
def O7(h:P:=by
 obtain⟨W0,yy,hW,⟨z,hz⟩,ca⟩:=YO V _ 30;open Z renaming aku→GM in exact Dm):P:=h
def anM(h:P:=by
 have q0:=Zf (ZK hzz h0.out);have ZN:=Zf hzz;clear hW ZG Ue hzz cb TQ hm h0 ca0 cx0 ca1 cx1 ca2 cx2 ca3 cx3 ca4 cx4 ca5 cx5 ca6 cx6;exact wu):P:=h
def anN(h:P:=by
 have q0:=Zf (ZK hzz h0.out);have q1:=Zf (ZK hzz h1.out);have ZN:=Zf hzz;clear hW ZG Ue hzz cb TQ hm h0 h1 ca0 cx0 ca1 cx1 ca2 cx2 ca3 cx3 ca4 cx4 ca5 cx5 ca6 cx6;refine (q0.out _).mono ?_;rintro r w' ⟨rfl,x1,rfl⟩;go_wp2_with (first|(go_at_call 55;with_reducible refine (q1.out _).mono ?_;rintro r w' ⟨rfl,x,rfl⟩));exact XO):P:=h
def anO(h:P:=by
 have q0:=Zf (ZK hzz h0.out);have q1:=Zf (ZK hzz h1.out);have q2:=Zf ((h2.out W zz m1 m2 m3 hzz TQ).pure);have ZN:=Zf hzz;clear hW ZG Ue hzz cb TQ hm h0 h1 h2 ca0 cx0 ca1 cx1 ca2 cx2 ca3 cx3 ca4 cx4 ca5 cx5 ca6 cx6;refine (q0.out _).mono ?_;rintro r w' ⟨rfl,x1,rfl⟩;go_wp2_with (first|(go_at_call 55;with_reducible refine (q1.out _).mono ?_;rintro r w' ⟨rfl,x,rfl⟩)|(go_at_call 57;with_reducible refine (q2.out _).mono ?_;rintro r w' ⟨rfl,x,rfl⟩));exact XO):P:=h
def anP(h:P:=by
 have q0:=Zf (ZK hzz h0.out);have q1:=Zf (ZK hzz h1.out);have q2:=Zf ((h2.out W zz m1 m2 m3 hzz TQ).pure);have q3:=Zf ((h3.out W zz m1 m2 m3 hzz TQ).pure);have ZN:=Zf hzz;clear hW ZG Ue hzz cb TQ hm h0 h1 h2 h3 ca0 cx0 ca1 cx1 ca2 cx2 ca3 cx3 ca4 cx4 ca5 cx5 ca6 cx6;refine (q0.out _).mono ?_;rintro r w' ⟨rfl,x1,rfl⟩;go_wp2_with (first|(go_at_call 55;with_reducible refine (q1.out _).mono ?_;rintro r w' ⟨rfl,x,rfl⟩)|(go_at_call 57;with_reducible refine (q2.out _).mono ?_;rintro r w' ⟨rfl,x,rfl⟩)|(go_at_call 59;with_reducible refine (q3.out _).mono ?_;rintro r w' ⟨rfl,x,rfl⟩));exact XO):P:=h
def anQ(h:P:=by
 open Z renaming agO→Gu in exact EX):P:=h
def anR(h:P:=by
 open Z renaming agP→Gu in exact EX):P:=h
def anS(h:P:=by
 open Z renaming agQ→Gu in exact EX):P:=h
def Kj(h:P:=by
 have d0:∀y,(plus W y).cell? ⟨pa.block,pa.off+9,none⟩=some (.int .u8 b0):=fun y=>((UI hz hx).plus y).c0 _ rfl;have d1:∀y,(plus W y).cell? ⟨pa.block,pa.off+9+1,none⟩=some (.int .i64 b1):=fun y=>((UI hz hx).plus y).cs 0 _ rfl;have d2:∀y,(plus W y).cell? ⟨pa.block,pa.off+9+2,none⟩=some (.int .u64 b2):=fun y=>((UI hz hx).plus y).cs 1 _ rfl;have d3:∀y,(plus W y).cell? ⟨pa.block,pa.off+9+3,none⟩=some (.int .u64 b3):=fun y=>((UI hz hx).plus y).cs 2 _ rfl;have d4:∀y,(plus W y).cell? ⟨pa.block,pa.off+9+4,none⟩=some (.string b4):=fun y=>((UI hz hx).plus y).cs 3 _ rfl;have d5:∀y,(plus W y).cell? ⟨pa.block,pa.off+9+5,none⟩=some (.string b5):=fun y=>((UI hz hx).plus y).cs 4 _ rfl;have d6:∀y,(plus W y).cell? ⟨pa.block,pa.off+9+6,none⟩=some (.int .i64 b6):=fun y=>((UI hz hx).plus y).cs 5 _ rfl;have d7:∀y,(plus W y).cell? ⟨pa.block,pa.off+9+7,none⟩=some (.int .i64 b7):=fun y=>((UI hz hx).plus y).cs 6 _ rfl;have d8:∀y,(plus W y).cell? ⟨pa.block,pa.off+9+8,none⟩=some (.slice b8p b8n b8c):=fun y=>((UI hz hx).plus y).cs 7 _ rfl;exact Ls):P:=h
def anT(h:P:=by
 open Z renaming ahl→RQ in exact Qb):P:=h
def Qe(h:P:=by
 rw[eW];have g0:=cg 0 (some (.slice p.headers.p p.headers.l.length p.headers.cap)) rfl;have g1:=cg 1 (some (.slice p.metas.p p.metas.l.length p.metas.cap)) rfl;have g2:=cg 2 (some (.slice p.states.p p.states.l.length p.states.cap)) rfl;have g3:=cg 3 (some (.slice p.actions.p p.actions.l.length p.actions.cap)) rfl;have g4:=cg 4 (some (.slice p.tables.p p.tables.l.length p.tables.cap)) rfl;have g5:=cg 5 (some (.slice p.control.p p.control.l.length p.control.cap)) rfl;have g6:=cg 6 (some (.slice p.emit.p p.emit.l.length p.emit.cap)) rfl;exact RS):P:=h
def anU(h:P:=by
 open Z renaming aeC→Gs in exact ES):P:=h
def anV(h:P:=by
 open Z renaming aeD→Gs in exact ES):P:=h
def anW(h:P:=by
 open Z renaming aqZ→zD in exact pT):P:=h
def anX(h:P:=by
 open Z renaming aq0→zD in exact pT):P:=h
def anY(h:P:=by
 have b3:=ce 3 (some (.slice kyp kn kyc)) rfl;have c1:=cr 1 (some (.slice sp n scap)) rfl;have hz:=Zf Yn;clear eW cg ce cr fr hsW;have kOf2:=Zf (fun x hx=>Fh (kOf'.out x hx) Yn);have kLv2:=Zf (show ∀x∈sl,∀t,Kp Zx W 45 #[.agg #[.int .i64 x.v.w,.int .u64 x.v.h,.int .u64 x.v.l],.int .i64 t] (.int .i64 (Wg x.v t)) from fun x hx t=>by rw[Yn];exact (kLv'.out x hx t).up _);have kLm2:=Zf (show ∀x∈sl,∀t,Kp Zx W 45 #[.agg #[.int .i64 x.m.w,.int .u64 x.m.h,.int .u64 x.m.l],.int .i64 t] (.int .i64 (Wg x.m t)) from fun x hx t=>by rw[Yn];exact (kLm'.out x hx t).up _);have hkeys2:=Zf (show Xa W 9 Ex.cells kyp kyl by rw[Yn];exact hkeys'.out.plus _);have hsets2:=Zf (show Xa W 7 Se.cells sp sl by rw[Yn];exact KT.out.plus _);clear Yn kOf' kLv' kLm' hkeys' KT;go_wp2;go_loopw [7,8,9,10,11] (fun iv _ _ _ _ wr=>∃k:Nat,k≤n∧iv=.int .i64 (k:Int)∧(∃z,wr=plus W z)∧Hid (∀j y,j<k→L[j]?=some y→y=0)) (fun iv _ _ _ _ _=>n-(intOf iv).toNat)
 case atStart=>exact⟨0,Zw _,rfl,⟨_,rfl⟩,Zf (fun j y h=>absurd h (Nat.not_lt_zero j))⟩
 case round =>
  obtain⟨k,hk,rfl,⟨zr,rfl⟩,hJ⟩:=hrel;by_cases ZC:k<n
  ·obtain⟨x,hx⟩:=Yq sl k atR
   have hlk:=Yt.out;obtain⟨e,he⟩:=Yq kyl k (by rw[NC.out];omega);obtain⟨pa,rfl,YZ⟩:=hsets2.out k x hx;obtain⟨ka,rfl,hck⟩:=hkeys2.out k e he;have Vw:=hat'.out k x e hx he;have kS:=Zf (kOf2.out e (Zo he));have hkd:=bL (hse'.out x (Zo hx)) (e.ty p (-1)).2.w;have qv:=kLv2.out x (Zo hx) (e.ty p (-1)).2.w;have qm:=kLm2.out x (Zo hx) (e.ty p (-1)).2.w;obtain⟨L1,hL1⟩:=ZB (Wg x.v (e.ty p (-1)).2.w);obtain⟨L2,hL2⟩:=ZB (Wg x.m (e.ty p (-1)).2.w);rw[hL1]at Vw hkd qv;rw[hL2]at Vw hkd qm;clear hL1 hL2;obtain⟨⟨R1,⟨tw,tt,tf⟩⟩,hRT⟩:∃r,e.ty p (-1)=r:=⟨_,rfl⟩;rw[hRT]at kS qv qm;simp only at kS qv qm;clear hRT;obtain⟨xk,⟨v1,v2,v3⟩,⟨m1,m2,m3⟩⟩:=x;simp only at hkd qv qm;obtain⟨op,⟨lw,lh,ll⟩,hd,nm,eh,el,ep,ec,eargs⟩:=e;simp only[Ex.op,Ex.lit,Ex.head,Ex.name,Ex.hi,Ex.lo,Ex.p,Ex.args,Ex.cap]at kS;have qv:=Zf qv;have qm:=Zf qm;have d0:∀y,(plus W y).cell? (ka.add (k*9))=some (.int .u8 op):=fun y=>(hck.plus y).c0 _ rfl;have d1:∀y,(plus W y).cell? ⟨(ka.add (k*9)).block,(ka.add (k*9)).off+1,none⟩=some (.int .i64 lw):=fun y=>(hck.plus y).cs 0 _ rfl;have d2:∀y,(plus W y).cell? ⟨(ka.add (k*9)).block,(ka.add (k*9)).off+2,none⟩=some (.int .u64 lh):=fun y=>(hck.plus y).cs 1 _ rfl;have d3:∀y,(plus W y).cell? ⟨(ka.add (k*9)).block,(ka.add (k*9)).off+3,none⟩=some (.int .u64 ll):=fun y=>(hck.plus y).cs 2 _ rfl;have d4:∀y,(plus W y).cell? ⟨(ka.add (k*9)).block,(ka.add (k*9)).off+4,none⟩=some (.string hd):=fun y=>(hck.plus y).cs 3 _ rfl;have d5:∀y,(plus W y).cell? ⟨(ka.add (k*9)).block,(ka.add (k*9)).off+5,none⟩=some (.string nm):=fun y=>(hck.plus y).cs 4 _ rfl;have d6:∀y,(plus W y).cell? ⟨(ka.add (k*9)).block,(ka.add (k*9)).off+6,none⟩=some (.int .i64 eh):=fun y=>(hck.plus y).cs 5 _ rfl;have d7:∀y,(plus W y).cell? ⟨(ka.add (k*9)).block,(ka.add (k*9)).off+7,none⟩=some (.int .i64 el):=fun y=>(hck.plus y).cs 6 _ rfl;have d8:∀y,(plus W y).cell? ⟨(ka.add (k*9)).block,(ka.add (k*9)).off+8,none⟩=some (.slice ep eargs.length ec):=fun y=>(hck.plus y).cs 7 _ rfl;have u0:∀y,(plus W y).cell? (pa.add (k*7))=some (.int .u8 xk):=fun y=>(YZ.plus y).c0 _ rfl;have u1:∀y,(plus W y).cell? ⟨(pa.add (k*7)).block,(pa.add (k*7)).off+1,none⟩=some (.int .i64 v1):=fun y=>(YZ.plus y).cs 0 _ rfl;have u2:∀y,(plus W y).cell? ⟨(pa.add (k*7)).block,(pa.add (k*7)).off+2,none⟩=some (.int .u64 v2):=fun y=>(YZ.plus y).cs 1 _ rfl;have u3:∀y,(plus W y).cell? ⟨(pa.add (k*7)).block,(pa.add (k*7)).off+3,none⟩=some (.int .u64 v3):=fun y=>(YZ.plus y).cs 2 _ rfl;have u4:∀y,(plus W y).cell? ⟨(pa.add (k*7)).block,(pa.add (k*7)).off+4,none⟩=some (.int .i64 m1):=fun y=>(YZ.plus y).cs 3 _ rfl;have u5:∀y,(plus W y).cell? ⟨(pa.add (k*7)).block,(pa.add (k*7)).off+5,none⟩=some (.int .u64 m2):=fun y=>(YZ.plus y).cs 4 _ rfl;have u6:∀y,(plus W y).cell? ⟨(pa.add (k*7)).block,(pa.add (k*7)).off+6,none⟩=some (.int .u64 m3):=fun y=>(YZ.plus y).cs 5 _ rfl;have a6:=Zf (Y7 k n ZC ZO.out);have Vf:=Zf Vw;have hkd':=Zf hkd;have Sg:¬((k:Int)<0):=asB;have hltk:k<kn:=asB;have hltk2:(k:Int)<(kn:Int):=asB;have hltn2:(k:Int)<(n:Int):=asB
   clear YZ hck hx he Vw hkd;go_upto_region 4 with (fail)
   obtain⟨W0,UL⟩:=ZB (plus W zr);rw[UL];have hO0:Xo W W0:=⟨_,UL.symm⟩;clear UL;go_cut [8,9] from 12 to 66 (fun s8 s9 wx=>∃b:Nat,s8=.pointer (some ⟨b,0,none⟩)∧s9=.int .i64 R1∧(wx.cell? ⟨b,0,none⟩=some (.int .i64 tw)∧wx.cell? ⟨b,1,none⟩=some (.bool tt)∧wx.cell? ⟨b,2,none⟩=some (.bool tf))∧wx.cell? ⟨V.heap.size,0,none⟩=some (.slice p.headers.p p.headers.l.length p.headers.cap)∧wx.cell? ⟨V.heap.size,1,none⟩=some (.slice p.metas.p p.metas.l.length p.metas.cap)∧wx.cell? ⟨V.heap.size,2,none⟩=some (.slice p.states.p p.states.l.length p.states.cap)∧wx.cell? ⟨V.heap.size,3,none⟩=some (.slice p.actions.p p.actions.l.length p.actions.cap)∧wx.cell? ⟨V.heap.size,4,none⟩=some (.slice p.tables.p p.tables.l.length p.tables.cap)∧wx.cell? ⟨V.heap.size,5,none⟩=some (.slice p.control.p p.control.l.length p.control.cap)∧wx.cell? ⟨V.heap.size,6,none⟩=some (.slice p.emit.p p.emit.l.length p.emit.cap)∧wx.cell? ⟨V.heap.size+1,3,none⟩=some (.slice (some ka) kn kyc)∧wx.cell? (ka.add (k*9))=some (.int .u8 op)∧wx.cell? ⟨(ka.add (k*9)).block,(ka.add (k*9)).off+1,none⟩=some (.int .i64 lw)∧wx.cell? ⟨(ka.add (k*9)).block,(ka.add (k*9)).off+2,none⟩=some (.int .u64 lh)∧wx.cell? ⟨(ka.add (k*9)).block,(ka.add (k*9)).off+3,none⟩=some (.int .u64 ll)∧wx.cell? ⟨(ka.add (k*9)).block,(ka.add (k*9)).off+4,none⟩=some (.string hd)∧wx.cell? ⟨(ka.add (k*9)).block,(ka.add (k*9)).off+5,none⟩=some (.string nm)∧wx.cell? ⟨(ka.add (k*9)).block,(ka.add (k*9)).off+6,none⟩=some (.int .i64 eh)∧wx.cell? ⟨(ka.add (k*9)).block,(ka.add (k*9)).off+7,none⟩=some (.int .i64 el)∧wx.cell? ⟨(ka.add (k*9)).block,(ka.add (k*9)).off+8,none⟩=some (.slice ep eargs.length ec)∧Xo W wx)
   case first =>
    have hS:∀U,Xo W U→(U.cell? ⟨V.heap.size,0,none⟩=some (.slice p.headers.p p.headers.l.length p.headers.cap)∧U.cell? ⟨V.heap.size,1,none⟩=some (.slice p.metas.p p.metas.l.length p.metas.cap)∧U.cell? ⟨V.heap.size,2,none⟩=some (.slice p.states.p p.states.l.length p.states.cap)∧U.cell? ⟨V.heap.size,3,none⟩=some (.slice p.actions.p p.actions.l.length p.actions.cap)∧U.cell? ⟨V.heap.size,4,none⟩=some (.slice p.tables.p p.tables.l.length p.tables.cap)∧U.cell? ⟨V.heap.size,5,none⟩=some (.slice p.control.p p.control.l.length p.control.cap)∧U.cell? ⟨V.heap.size,6,none⟩=some (.slice p.emit.p p.emit.l.length p.emit.cap)∧U.cell? ⟨V.heap.size+1,3,none⟩=some (.slice (some ka) kn kyc)∧U.cell? (ka.add (k*9))=some (.int .u8 op)∧U.cell? ⟨(ka.add (k*9)).block,(ka.add (k*9)).off+1,none⟩=some (.int .i64 lw)∧U.cell? ⟨(ka.add (k*9)).block,(ka.add (k*9)).off+2,none⟩=some (.int .u64 lh)∧U.cell? ⟨(ka.add (k*9)).block,(ka.add (k*9)).off+3,none⟩=some (.int .u64 ll)∧U.cell? ⟨(ka.add (k*9)).block,(ka.add (k*9)).off+4,none⟩=some (.string hd)∧U.cell? ⟨(ka.add (k*9)).block,(ka.add (k*9)).off+5,none⟩=some (.string nm)∧U.cell? ⟨(ka.add (k*9)).block,(ka.add (k*9)).off+6,none⟩=some (.int .i64 eh)∧U.cell? ⟨(ka.add (k*9)).block,(ka.add (k*9)).off+7,none⟩=some (.int .i64 el)∧U.cell? ⟨(ka.add (k*9)).block,(ka.add (k*9)).off+8,none⟩=some (.slice ep eargs.length ec)∧Xo W U):=fun U hU=>by
     obtain⟨z,rfl⟩:=id hU;exact⟨g0 z,g1 z,g2 z,g3 z,g4 z,g5 z,g6 z,b3 z,d0 z,d1 z,d2 z,d3 z,d4 z,d5 z,d6 z,d7 z,d8 z,hU⟩
    have Vn:=Zf hS;have XE:=Zf hO0;have Uy:Hid (W.heap.size≤W0.heap.size):=by obtain⟨z,rfl⟩:=hO0;exact XZ W z
    clear hS hO0 g0 g1 g2 g3 g4 g5 g6 b3 c1 d0 d1 d2 d3 d4 d5 d6 d7 d8 u0 u1 u2 u3 u4 u5 u6 hJ;go_region_held3 (fun U=>U.cell? ⟨V.heap.size,0,none⟩=some (.slice p.headers.p p.headers.l.length p.headers.cap)∧U.cell? ⟨V.heap.size,1,none⟩=some (.slice p.metas.p p.metas.l.length p.metas.cap)∧U.cell? ⟨V.heap.size,2,none⟩=some (.slice p.states.p p.states.l.length p.states.cap)∧U.cell? ⟨V.heap.size,3,none⟩=some (.slice p.actions.p p.actions.l.length p.actions.cap)∧U.cell? ⟨V.heap.size,4,none⟩=some (.slice p.tables.p p.tables.l.length p.tables.cap)∧U.cell? ⟨V.heap.size,5,none⟩=some (.slice p.control.p p.control.l.length p.control.cap)∧U.cell? ⟨V.heap.size,6,none⟩=some (.slice p.emit.p p.emit.l.length p.emit.cap)∧U.cell? ⟨V.heap.size+1,3,none⟩=some (.slice (some ka) kn kyc)∧U.cell? (ka.add (k*9))=some (.int .u8 op)∧U.cell? ⟨(ka.add (k*9)).block,(ka.add (k*9)).off+1,none⟩=some (.int .i64 lw)∧U.cell? ⟨(ka.add (k*9)).block,(ka.add (k*9)).off+2,none⟩=some (.int .u64 lh)∧U.cell? ⟨(ka.add (k*9)).block,(ka.add (k*9)).off+3,none⟩=some (.int .u64 ll)∧U.cell? ⟨(ka.add (k*9)).block,(ka.add (k*9)).off+4,none⟩=some (.string hd)∧U.cell? ⟨(ka.add (k*9)).block,(ka.add (k*9)).off+5,none⟩=some (.string nm)∧U.cell? ⟨(ka.add (k*9)).block,(ka.add (k*9)).off+6,none⟩=some (.int .i64 eh)∧U.cell? ⟨(ka.add (k*9)).block,(ka.add (k*9)).off+7,none⟩=some (.int .i64 el)∧U.cell? ⟨(ka.add (k*9)).block,(ka.add (k*9)).off+8,none⟩=some (.slice ep eargs.length ec)∧Xo W U) (exact Vn.out _ auz) (first|(go_at_call 115;refine (KG (kS.out _ auA)).mono ?_;rintro e w' ⟨rfl,x,rfl,hk⟩;first|(obtain⟨t0,t1,t2,t3,t4,t5,t6,t7,t8,t9,ta,tb⟩:=hk _ atQ;clear hk;try simp only[World.size_alloc]at t0 t1 t2 t3 t4 t5 t6 t7 t8 t9 ta tb)|skip));all_goals
     go_wp2_with fail;go_meet;refine⟨_,rfl,rfl,?_,asF⟩;first|exact Eb _ _ _ asF asF asF|exact⟨(YI _ _ _ _ _ rfl).trans rfl,(YI _ _ _ _ _ rfl).trans rfl,(YI _ _ _ _ _ rfl).trans rfl⟩
   case rest =>
    open Z renaming alt→ze in exact tL
  ·obtain rfl:k=n:=by omega
   go_wp2;go_ret;exact⟨congrArg (fun z=>Zd (Zz .i64 z)) ((P0 _ fun j y hy=>hJ.out j y (Zu (Zi.1 hy).1 hsl'.out) hy).symm.trans ZR.out),by rw[hz.out];simp only[ZD];exact⟨_,rfl⟩⟩):P:=h
def anZ(h:P:=by
 have i0:=ce 0 (some (.int .u8 kk)) rfl;have i1:=ce 1 (some (.int .i64 ia)) rfl;have i2:=ce 2 (some (.int .i64 ib)) rfl;open Z renaming apy→NZ in exact MG):P:=h
def an1(h:P:=by
 have i0:=ce 0 (some (.int .u8 10)) rfl;have i1:=ce 1 (some (.int .i64 ia)) rfl;have i2:=ce 2 (some (.int .i64 0)) rfl;open Z renaming apz→NZ in exact MG):P:=h
def an2(h:P:=by
 have i0:=ce 0 (some (.int .u8 7)) rfl;have i1:=ce 1 (some (.int .i64 (a:Int))) rfl;have i2:=ce 2 (some (.int .i64 (b:Int))) rfl;open Z renaming apA→NZ in exact MG):P:=h
def an3(h:P:=by
 have i0:=ce 0 (some (.int .u8 6)) rfl;have i1:=ce 1 (some (.int .i64 (a:Int))) rfl;have i2:=ce 2 (some (.int .i64 0)) rfl;open Z renaming apB→NZ in exact MG):P:=h
def an4(h:P:=by
 have i0:=ce 0 (some (.int .u8 12)) rfl;have i1:=ce 1 (some (.int .i64 (a:Int))) rfl;have i2:=ce 2 (some (.int .i64 (b:Int))) rfl;open Z renaming apC→NZ in exact MG):P:=h
def an5(h:P:=by
 have i0:=ce 0 (some (.int .u8 14)) rfl;have i1:=ce 1 (some (.int .i64 (a:Int))) rfl;have i2:=ce 2 (some (.int .i64 0)) rfl;open Z renaming apD→NZ in exact MG):P:=h
def ME(h:P:=by
 rw[←hU];obtain⟨Kn,hz9⟩:=Yy hB;obtain⟨zW,Yn⟩:∃x,U=plus W x:=by rw[hz9,ZD];exact⟨_,rfl⟩
 obtain⟨zU,X9⟩:∃x,U=plus V x:=by rw[Yn,UU.out,ZD];exact⟨_,rfl⟩
 have cp0:=XW Yn cp0;have cp1:=XW Yn cp1;have cp2:=XW Yn cp2;have cp3:=XW Yn cp3;have cp4:=XW Yn cp4;have cp5:=XW Yn cp5;have cp6:=XW Yn cp6;have ci0:=XW Yn ci0;have ci1:=XW Yn ci1;have ci2:=XW Yn ci2;have ci3:=XW Yn ci3;have ci4:=XW Yn ci4;have ci5:=XW Yn ci5;have ci6:=XW Yn ci6;have ci7:=XW Yn ci7;have ci8:=XW Yn ci8;have ci9:=XW Yn ci9;have ci10:=XW Yn ci10;have ci11:=XW Yn ci11;have ci12:=XW Yn ci12;have ci13:=XW Yn ci13;have ci14:=XW Yn ci14;have ci15:=XW Yn ci15;have ci16:=XW Yn ci16;exact NX):P:=h
def an6(h:P:=by
 clear d0 d1 d2 d3 d4 e0;open Z renaming abO→NK in exact Mq):P:=h
def an7(h:P:=by
 clear d0 d1 d2 d3 d4 e0 e1 e2;open Z renaming abP→NK in exact Mq):P:=h
def an8(h:P:=by
 clear d0 d1 d2 d3 d4 e0;open Z renaming abQ→NK in exact Mq):P:=h
def an9(h:P:=by
 clear d0 d1 d2 d3 d4;open Z renaming abR→NK in exact Mq):P:=h
def aoa(h:P:=by
 clear d0 d1 d2 d3 d4 x0 x1 x2;open Z renaming abS→NK in exact Mq):P:=h
def aob(h:P:=by
 clear d0 d1 d2 d3 d4;open Z renaming abT→NK in exact Mq):P:=h
def Rt(h:P:=by
 open Z renaming ahR→Ao in exact ua):P:=h
def aoc(h:P:=by
 open Z renaming ajA→AF in exact uG):P:=h
def aod(h:P:=by
 open Z renaming ajC→AG in exact uI):P:=h
def aoe(h:P:=by
 open Z renaming ajE→AH in exact uJ):P:=h
def aof(h:P:=by
 open Z renaming ajG→AI in exact uK):P:=h
def aog(h:P:=by
 open Z renaming ajI→AJ in exact uM):P:=h
def aoh(h:P:=by
 open Z renaming ajv→AE in exact uF):P:=h
def aoi(h:P:=by
 open Z renaming ajB→AF in exact uG):P:=h
def aoj(h:P:=by
 open Z renaming ajD→AG in exact uI):P:=h
def aok(h:P:=by
 open Z renaming ajF→AH in exact uJ):P:=h
def aol(h:P:=by
 open Z renaming ajH→AI in exact uK):P:=h
def aom(h:P:=by
 open Z renaming ajJ→AJ in exact uM):P:=h
def aon(h:P:=by
 open Z renaming ajw→AE in exact uF):P:=h
def pz(h:P:=by
 open Z renaming ahS→Ao in exact ua):P:=h
def aoo(h:P:=by
 open Z renaming ait→Aw in exact uo):P:=h
def aoq(h:P:=by
 open Z renaming aiu→Aw in exact uo):P:=h
def MF(h:P:=by
 clear a0 a1 a2 a3 a4 a5 a6 a7 a8;obtain⟨b,rfl,hG⟩:=hcut;obtain⟨zc,hzc⟩:=hG.up;have hcu:=Zf (show ∀y,∃z,plus wc y=plus X z from fun y=>Uj hG.up y);have Wd:=Zf (show ∀y,RB V (V.heap.size+1+1) (plus wc y) from fun y=>by rw[hzc,ZD];exact hR.out _);have t0:=fun y=>(TI wc y b 0 hG.lt).trans hG.t0;have t1:=fun y=>(TI wc y b 1 hG.lt).trans hG.t1;have t2:=fun y=>(TI wc y b 2 hG.lt).trans hG.t2;replace g0:=ZM hzc g0;replace g1:=ZM hzc g1;replace g2:=ZM hzc g2;replace g3:=ZM hzc g3;replace g4:=ZM hzc g4;replace g5:=ZM hzc g5;replace g6:=ZM hzc g6;replace g7:=ZM hzc g7;replace b0:=ZM hzc b0;replace b1:=ZM hzc b1;replace b2:=ZM hzc b2;replace b3:=ZM hzc b3;replace b4:=ZM hzc b4;replace b5:=ZM hzc b5;replace b6:=ZM hzc b6;replace b7:=ZM hzc b7;replace b8:=ZM hzc b8;exact NY):P:=h
def aor(h:P:=by
 open Z renaming adK→Le in exact LV):P:=h
def aos(h:P:=by
 open Z renaming adL→Le in exact LV):P:=h
def aot(h:P:=by
 open Z renaming akQ→AZ in exact tk):P:=h
def aou(h:P:=by
 open Z renaming vv→zF in exact pX):P:=h
def aov(h:P:=by
 open Z renaming ars→zF in exact pX):P:=h
def aow(h:P:=by
 open Z renaming adN→Le in exact LV):P:=h
def UH(h:P:=by
 intro y0;obtain⟨p,cap,l⟩:=A;simp only[Sl.v]at hl hf ⊢;open Z renaming alZ→G4 in exact DB):P:=h
def aox(h:P:=by
 open Z renaming ash→N9 in exact MM):P:=h
def aoy(h:P:=by
 open Z renaming asi→N9 in exact MM):P:=h
def aoz(h:P:=by
 open Z renaming asj→N9 in exact MM):P:=h
def aoA(h:P:=by
 open Z renaming ask→N9 in exact MM):P:=h
def aoB(h:P:=by
 open Z renaming asl→N9 in exact MM):P:=h
def aoC(h:P:=by
 open Z renaming asm→N9 in exact MM):P:=h
def aoD(h:P:=by
 obtain⟨R,hR⟩:=ZB (YL may l 0);have h0:YL may (l.drop 0) 0=R:=hR;open Z renaming agq→Pl in exact PI):P:=h
def aoE(h:P:=by
 by_cases h1:(n:Int)<lo
 case pos =>
  open Z renaming pY→Rn in exact Rx
 by_cases h2:hi<(n:Int)
 case pos =>
  open Z renaming pY→Rm in exact Rw
 open Z renaming alL→zi in exact tP):P:=h
def aoF(h:P:=by
 by_cases h1:(n:Int)<lo
 case pos =>
  open Z renaming oa→Rn in exact Rx
 by_cases h2:hi<(n:Int)
 case pos =>
  open Z renaming oa→Rm in exact Rw
 open Z renaming apm→RT in exact Qf):P:=h
def aoG(h:P:=by
 by_cases h1:(n:Int)<lo
 case pos =>
  open Z renaming od→Rn in exact Rx
 by_cases h2:hi<(n:Int)
 case pos =>
  open Z renaming od→Rm in exact Rw
 open Z renaming apn→RT in exact Qf):P:=h
def aoH(h:P:=by
 by_cases h1:(n:Int)<lo
 case pos =>
  open Z renaming oe→Rn in exact Rx
 by_cases h2:hi<(n:Int)
 case pos =>
  open Z renaming oe→Rm in exact Rw
 open Z renaming apo→RT in exact Qf):P:=h
def aoI(h:P:=by
 by_cases h1:(n:Int)<lo
 case pos =>
  open Z renaming og→Rn in exact Rx
 by_cases h2:hi<(n:Int)
 case pos =>
  open Z renaming og→Rm in exact Rw
 open Z renaming apq→RT in exact Qf):P:=h
def aoJ(h:P:=by
 by_cases h1:(n:Int)<lo
 case pos =>
  open Z renaming oi→Rn in exact Rx
 by_cases h2:hi<(n:Int)
 case pos =>
  open Z renaming oi→Rm in exact Rw
 open Z renaming apr→RT in exact Qf):P:=h
def aoK(h:P:=by
 by_cases h1:(n:Int)<lo
 case pos =>
  open Z renaming ol→Rn in exact Rx
 by_cases h2:hi<(n:Int)
 case pos =>
  open Z renaming ol→Rm in exact Rw
 open Z renaming aps→RT in exact Qf):P:=h
def aoL(h:P:=by
 by_cases h1:(n:Int)<lo
 case pos =>
  open Z renaming om→Rn in exact Rx
 by_cases h2:hi<(n:Int)
 case pos =>
  open Z renaming om→Rm in exact Rw
 open Z renaming apt→RT in exact Qf):P:=h
def aoM(h:P:=by
 by_cases h1:(n:Int)<lo
 case pos =>
  open Z renaming oo→Rn in exact Rx
 by_cases h2:hi<(n:Int)
 case pos =>
  open Z renaming oo→Rm in exact Rw
 open Z renaming apu→RT in exact Qf):P:=h
def aoN(h:P:=by
 by_cases h1:(n:Int)<lo
 case pos =>
  open Z renaming oq→Rn in exact Rx
 by_cases h2:hi<(n:Int)
 case pos =>
  open Z renaming oq→Rm in exact Rw
 open Z renaming apv→RT in exact Qf):P:=h
def aoO(h:P:=by
 by_cases h1:(n:Int)<lo
 case pos =>
  open Z renaming ot→Rn in exact Rx
 by_cases h2:hi<(n:Int)
 case pos =>
  open Z renaming ot→Rm in exact Rw
 open Z renaming apw→RT in exact Qf):P:=h
def aoP(h:P:=by
 by_cases h1:(n:Int)<lo
 case pos =>
  open Z renaming ou→Rn in exact Rx
 by_cases h2:hi<(n:Int)
 case pos =>
  open Z renaming ou→Rm in exact Rw
 open Z renaming apx→RT in exact Qf):P:=h
def DZ(h:P:=by
 have h0:=Zf h0;go_enter func205,ntmps205;go_wp2_with fail;obtain⟨W,yy,hW,⟨z,hz⟩,ca⟩:=YO V _ 45;open Z renaming acJ→KV in exact Ij):P:=h
def aoQ(h:P:=by
 go_wp2_with (go_at_call 221;refine Pw q1.out ?_;rintro r w' ⟨rfl,x,rfl⟩);exact qE):P:=h
def aoR(h:P:=by
 go_wp2_with fail;exact qE):P:=h
def aoS(h:P:=by
 go_wp2_with (go_at_call 221;refine Pw q1.out ?_;rintro r w' ⟨rfl,x,rfl⟩);go_loopw [4] (fun iv wr=>∃k:Nat,k≤2∧iv=.int .i64 (k:Int)∧Hid ((args.drop k).all Ex.ok=R)∧∃y,wr=plus W y) (fun iv _=>2-(intOf iv).toNat)
 case atStart=>exact⟨0,Zw _,rfl,YM,by first|exact⟨_,rfl⟩|exact Qy W _ _⟩
 case round =>
  exact amz):P:=h
def Hs(h:P:=by
 open Z renaming apR→N5 in exact MH):P:=h
def aoT(h:P:=by
 open Z renaming pR→OB in exact OZ):P:=h
def aoU(h:P:=by
 open Z renaming ain→OB in exact OZ):P:=h
def QF(h:P:=by
 obtain⟨W,yy,hW,⟨z,hz⟩,cb0⟩:=YO V _ 47;open Z renaming aqU→QW in exact Q5):P:=h
def aoV(h:P:=by
 have Sc:=fun y=>ZS (Tu hz hc) y;have hry:=fun y=>ZS (Tu hz hr) y;exact pr):P:=h
def aoW(h:P:=by
 have q1c:=Zf (ZK hz h1.out);have Sc:=fun y=>ZS (Tu hz hc) y;have hry:=fun y=>ZS (Tu hz hr) y;have ZN:=Zf hz;clear hW hz cb0;refine (q0c.out _).mono ?_;rintro r w' ⟨rfl,x1,rfl⟩;go_wp2_with (first|(go_at_call 137;with_reducible refine (q1c.out _).mono ?_;rintro r w' ⟨rfl,x,rfl⟩));exact XO):P:=h
def aoX(h:P:=by
 have ZN:=Zf hz;clear hW hz cb0 h0;go_cut [5] from 7 to 24 (fun v wx=>v=.bool E∧∃y,wx=plus W y)
 case first =>
  exact O4
 case rest =>
  obtain⟨rfl,y1,rfl⟩:=hcut;go_upto_region 2 with (fail)
  go_cut [6] from 25 to 34 (fun v wx=>v=.bool B∧wx=plus W y1)
  case first =>
   exact O6
  case rest =>
   obtain⟨rfl,rfl⟩:=hcut;have hR:=ZR.out;clear ZR Wc XI q0c;cases B
   case false =>
    cases E
    case false =>
     by_cases q1:(a1.toList==[])=true
     case neg =>
      open Z renaming ajU→GH in exact Di
     case pos =>
      have q1x:a1.toList=[]:=asJ;have q1y:(a1.toList !=[])=false:=asJ;by_cases q2:(a2.toList==[])=true
      case neg =>
       have q2:(a2.toList==[])=false:=asL;have q2x:¬a2.toList=[]:=asL;have q2y:(a2.toList !=[])=true:=asL;open Z renaming Hk→Vg in exact Vk
      case pos =>
       have q2x:a2.toList=[]:=asL;have q2y:(a2.toList !=[])=false:=asL;open Z renaming Hk→RN in exact R8
    case true =>
     exact DS
   case true =>
    exact DS):P:=h
def aoY(h:P:=by
 have ZN:=Zf hz;clear hW hz cb0 h0;go_cut [5] from 7 to 24 (fun v wx=>v=.bool E∧∃y,wx=plus W y)
 case first =>
  exact O4
 case rest =>
  obtain⟨rfl,y1,rfl⟩:=hcut;go_upto_region 2 with (fail)
  go_cut [6] from 25 to 34 (fun v wx=>v=.bool B∧wx=plus W y1)
  case first =>
   exact O6
  case rest =>
   obtain⟨rfl,rfl⟩:=hcut;have hR:=ZR.out;clear ZR Wc XI q0c;exact DS):P:=h
def aoZ(h:P:=by
 have q1c:=Zf (ZK hz h1.out);have q2c:=Zf (ZK hz h2.out);have q3c:=Zf (ZK hz h3.out);have ZN:=Zf hz;clear hW hz cb0 h0 h1 h2 h3;go_cut [5] from 7 to 24 (fun v wx=>v=.bool E∧∃y,wx=plus W y)
 case first =>
  exact O4
 case rest =>
  obtain⟨rfl,y1,rfl⟩:=hcut;go_upto_region 2 with (fail)
  go_cut [6] from 25 to 34 (fun v wx=>v=.bool B∧wx=plus W y1)
  case first =>
   exact O6
  case rest =>
   obtain⟨rfl,rfl⟩:=hcut;have hR:=ZR.out;clear ZR Wc XI q0c;cases B
   case false =>
    cases s1
    case false =>
     open Z renaming adi→Xy in exact Xz
    case true =>
     by_cases q1:(a1.toList==[])=true
     case neg =>
      open Z renaming ajV→GH in exact Di
     case pos =>
      have q1x:a1.toList=[]:=asJ;have q1y:(a1.toList !=[])=false:=asJ;cases s3
      case false =>
       open Z renaming qo→WV in exact WX
      case true =>
       open Z renaming qo→SJ in exact SW
   case true =>
    open Z renaming DT→Xy in exact Xz):P:=h
def ao0(h:P:=by
 have q1c:=Zf (ZK hz h1.out);have q2c:=Zf (ZK hz h2.out);have q3c:=Zf (ZK hz h3.out);have ZN:=Zf hz;clear hW hz cb0 h0 h1 h2 h3;go_cut [5] from 7 to 24 (fun v wx=>v=.bool E∧∃y,wx=plus W y)
 case first =>
  exact O4
 case rest =>
  obtain⟨rfl,y1,rfl⟩:=hcut;go_upto_region 2 with (fail)
  go_cut [6] from 25 to 34 (fun v wx=>v=.bool B∧wx=plus W y1)
  case first =>
   exact O6
  case rest =>
   obtain⟨rfl,rfl⟩:=hcut;have hR:=ZR.out;clear ZR Wc XI q0c;by_cases q1:(a2.toList==[])=true
   case neg =>
    have q1:(a2.toList==[])=false:=asJ;have q1x:¬a2.toList=[]:=asJ;have q1y:(a2.toList !=[])=true:=asJ;open Z renaming DT→WV in exact WX
   case pos =>
    have q1x:a2.toList=[]:=asJ;have q1y:(a2.toList !=[])=false:=asJ;by_cases q2:(a1.toList==[])=true
    case neg =>
     have q2:(a1.toList==[])=false:=asL;have q2x:¬a1.toList=[]:=asL;have q2y:(a1.toList !=[])=true:=asL;open Z renaming DT→Vg in exact Vk
    case pos =>
     have q2x:a1.toList=[]:=asL;have q2y:(a1.toList !=[])=false:=asL;cases s1
     case false =>
      open Z renaming ar8→Vg in exact Vk
     case true =>
      cases s2
      case false =>
       open Z renaming ar9→Vg in exact Vk
      case true =>
       cases s3
       case false =>
        open Z renaming qq→Vg in exact Vk
       case true =>
        open Z renaming qq→RN in exact R8):P:=h
def ao1(h:P:=by
 have q1c:=Zf (ZK hz h1.out);have ZN:=Zf hz;clear hW hz cb0 h0 h1;go_cut [5] from 7 to 24 (fun v wx=>v=.bool E∧∃y,wx=plus W y)
 case first =>
  exact O4
 case rest =>
  obtain⟨rfl,y1,rfl⟩:=hcut;go_upto_region 2 with (fail)
  go_cut [6] from 25 to 34 (fun v wx=>v=.bool B∧wx=plus W y1)
  case first =>
   exact O6
  case rest =>
   obtain⟨rfl,rfl⟩:=hcut;have hR:=ZR.out;clear ZR Wc XI q0c;cases B
   case false =>
    by_cases q1:(a1.toList==[])=true
    case neg =>
     exact qu
    case pos =>
     have q1x:a1.toList=[]:=asJ;have q1y:(a1.toList !=[])=false:=asJ;by_cases q2:(a2.toList==[])=true
     case neg =>
      have q2:(a2.toList==[])=false:=asL;have q2x:¬a2.toList=[]:=asL;have q2y:(a2.toList !=[])=true:=asL;open Z renaming DU→Vg in exact Vk
     case pos =>
      have q2x:a2.toList=[]:=asL;have q2y:(a2.toList !=[])=false:=asL;cases s1
      case false =>
       open Z renaming qx→Vg in exact Vk
      case true =>
       open Z renaming qx→RN in exact R8
   case true =>
    exact Kh):P:=h
def ao2(h:P:=by
 have q1c:=Zf (ZK hz h1.out);have ZN:=Zf hz;clear hW hz cb0 h0 h1;go_cut [5] from 7 to 24 (fun v wx=>v=.bool E∧∃y,wx=plus W y)
 case first =>
  exact O4
 case rest =>
  obtain⟨rfl,y1,rfl⟩:=hcut;go_upto_region 2 with (fail)
  go_cut [6] from 25 to 34 (fun v wx=>v=.bool B∧wx=plus W y1)
  case first =>
   exact O6
  case rest =>
   obtain⟨rfl,rfl⟩:=hcut;have hR:=ZR.out;clear ZR Wc XI q0c;cases B
   case false =>
    cases E
    case false =>
     by_cases q1:(a1.toList==[])=true
     case neg =>
      exact qu
     case pos =>
      have q1x:a1.toList=[]:=asJ;have q1y:(a1.toList !=[])=false:=asJ;exact qB
    case true =>
     exact Kh
   case true =>
    exact Kh):P:=h
def ao3(h:P:=by
 have q1c:=Zf (ZK hz h1.out);have q2c:=Zf (ZK hz h2.out);have Sc:=fun y=>ZS (Tu hz hc) y;have hry:=fun y=>ZS (Tu hz hr) y;have ZN:=Zf hz;clear hW hz cb0;refine (q0c.out _).mono ?_;rintro r w' ⟨rfl,x1,rfl⟩;go_wp2_with (first|(go_at_call 137;with_reducible refine (q1c.out _).mono ?_;rintro r w' ⟨rfl,x,rfl⟩)|(go_at_call 137;with_reducible refine (q2c.out _).mono ?_;rintro r w' ⟨rfl,x,rfl⟩));exact XO):P:=h
def ao4(h:P:=by
 have q1c:=Zf (ZK hz h1.out);have ZN:=Zf hz;clear hW hz cb0 h0 h1;go_cut [5] from 7 to 24 (fun v wx=>v=.bool E∧∃y,wx=plus W y)
 case first =>
  exact O4
 case rest =>
  obtain⟨rfl,y1,rfl⟩:=hcut;go_upto_region 2 with (fail)
  go_cut [6] from 25 to 34 (fun v wx=>v=.bool B∧wx=plus W y1)
  case first =>
   exact O6
  case rest =>
   obtain⟨rfl,rfl⟩:=hcut;have hR:=ZR.out;clear ZR Wc XI q0c;cases B
   case false =>
    cases E
    case false =>
     by_cases q1:(a2.toList==[])=true
     case neg =>
      have q1:(a2.toList==[])=false:=asJ;have q1x:¬a2.toList=[]:=asJ;have q1y:(a2.toList !=[])=true:=asJ;exact qr
     case pos =>
      have q1x:a2.toList=[]:=asJ;have q1y:(a2.toList !=[])=false:=asJ;exact qB
    case true =>
     exact Kh
   case true =>
    exact Kh):P:=h
def D2(h:P:=by
 refine wp_region_held_drew (S:=fun U=>∃z,U=plus X z) asC ⟨⟨Y0.blocks,Y0.draws+1⟩,rfl⟩ (fun hHeld=>?_);obtain⟨U0,TL⟩:=ZB ((plus X Y0).drew);rw[TL]at hHeld ⊢;clear TL;refine wpAnyH_take (i:=0) (v:=?v0) rfl asC asC asC (fun _ _ _ h=>h) (Or.inl ⟨asH,?h0⟩) hHeld ?r0
 case h0 =>
  rintro _ ⟨z,rfl⟩;go_simp;try with_reducible rfl
 simp only[Act.put,Zp,Zr,Zq];refine wpAnyH_take (i:=1) (v:=?v1) rfl asC asC asC (fun _ _ _ h=>h) (Or.inl ⟨asH,?h1⟩) hHeld ?r1
 case h1 =>
  rintro _ ⟨z,rfl⟩;go_simp;try with_reducible rfl
 simp only[Act.put,Zp,Zr,Zq];refine wpAnyH_take (i:=2) (v:=?v2) rfl asC asC asC (fun _ _ _ h=>h) (Or.inl ⟨asH,?h2⟩) hHeld ?r2
 case h2 =>
  rintro _ ⟨z,rfl⟩;go_simp;try with_reducible rfl
 simp only[Act.put,Zp,Zr,Zq];refine wpAnyH_take (i:=3) (v:=?v3) rfl asC asC asC (fun _ _ _ h=>h) (Or.inl ⟨asH,?h3⟩) hHeld ?r3
 case h3 =>
  rintro _ ⟨z,rfl⟩;go_simp;try with_reducible rfl
 simp only[Act.put,Zp,Zr,Zq];refine wpAnyH_take (i:=4) (v:=?v4) rfl asC asC asC (fun _ _ _ h=>h) (Or.inl ⟨asH,?h4⟩) hHeld ?r4
 case h4 =>
  rintro _ ⟨z,rfl⟩;go_simp;try with_reducible rfl
 simp only[Act.put,Zp,Zr,Zq];refine wpAnyH_ready (rs:=[5,6]) asC asD ?_;exact G9):P:=h
def ao5(h:P:=by
 refine Za rfl (fun K hK=>?_) ?_
 ·go_simp
  open Z renaming vz→BN in exact wP
 open Z renaming vz→BK in exact wH):P:=h
def ao6(h:P:=by
 refine Za rfl (fun K hK=>?_) ?_
 ·go_simp
  open Z renaming vg→BN in exact wP
 open Z renaming vg→BK in exact wH):P:=h
def ao7(h:P:=by
 refine Za rfl (fun K hK=>?_) ?_
 ·go_simp
  refine (qka.out _ hHeld).mono ?_;rintro r w' ⟨rfl,x1,rfl⟩;refine⟨rfl,rfl,?_⟩;obtain⟨zz,hzz⟩:=hHeld;exact vf
 refine Za rfl (fun K hK=>?_) AllReadyH.nil;go_simp;refine hK.out _ _ (So hHeld _) (fun RC=>?_);clear hK K;refine wpAnyH_ready (rs:=[5]) asC asD ?_;refine Za rfl (fun K hK=>?_) AllReadyH.nil;go_simp;refine (qka.out _ RC).mono ?_;rintro r w' ⟨rfl,x1,rfl⟩;refine⟨rfl,rfl,?_⟩;obtain⟨zz,hzz⟩:=RC;exact vf):P:=h
def Ru(h:P:=by
 open Z renaming adG→Ld in exact LU):P:=h
def ao8(h:P:=by
 have d5:=fun y=>(Yv.plus y).cs 4 _ rfl;have d6:=fun y=>(Yv.plus y).cs 5 _ rfl;have d7:=fun y=>(Yv.plus y).cs 6 _ rfl;have d8:=fun y=>(Yv.plus y).cs 7 _ rfl;clear q2 Yv ha hs h0;cases b with
 | true =>
  have ZP:=Zf (show (if (kl.drop (k+1)).all (Ex.there B)=true then (0:Int) else 7)=R by rw[←ZQ,Bool.true_and]);clear ZQ;rw[if_pos rfl]at q2';go_wp2_with (refine Pw q2'.out ?_;rintro e w' ⟨rfl,x,rfl⟩);go_roundw
  case rel=>exact⟨k+1,ZC,congrArg (Zz .i64) a6.out,ZP,x,rfl⟩
  case measure=>exact Y9 k n ZC a6.out
 | false =>
  have hR:=Zf (show (7:Int)=R by rw[←ZQ,Bool.false_and,if_neg asE]);clear ZQ;rw[if_neg asE]at q2';go_wp2_with (refine Pw q2'.out ?_;rintro e w' ⟨rfl,x,rfl⟩);go_ret;exact⟨congrArg (fun z=>Zd (Zz .i64 z)) hR.out,asK⟩):P:=h
def ao9(h:P:=by
 open Z renaming aga→Oz in exact OX):P:=h
def apa(h:P:=by
 have W4:=YR ZG Vc.out;have e0:=fun y=>(W4.plus y).c0 _ rfl;simp only[Nat.mul_one]at e0;open Z renaming ajg→Jg in exact IM):P:=h
def apb(h:P:=by
 have qh1:=Zf (ZK ZG YA.out);have ZY:=Zf ZG;clear hW ZG cp ci YA Yo Yv;open Z renaming acd→TT in exact TZ):P:=h
def apc(h:P:=by
 have W4:=YR ZG Vc.out;have e0:=fun y=>(W4.plus y).c0 _ rfl;have e1:=fun y=>(W4.plus y).cs 0 _ rfl;have e2:=fun y=>(W4.plus y).cs 1 _ rfl;have qh1:=Zf (ZK ZG YA.out);have ZY:=Zf ZG;clear hW ZG cp ci YA Yo Vc Yv W4;open Z renaming ace→TT in exact TZ):P:=h
def apd(h:P:=by
 open Z renaming agb→Oz in exact OX):P:=h
def ape(h:P:=by
 have W4:=YR ZG Vc.out;have e0:=fun y=>(W4.plus y).c0 _ rfl;have e1:=fun y=>(W4.plus y).cs 0 _ rfl;have e2:=fun y=>(W4.plus y).cs 1 _ rfl;have e3:=fun y=>(W4.plus y).cs 2 _ rfl;have e4:=fun y=>(W4.plus y).cs 3 _ rfl;have e5:=fun y=>(W4.plus y).cs 4 _ rfl;have e6:=fun y=>(W4.plus y).cs 5 _ rfl;have e7:=fun y=>(W4.plus y).cs 6 _ rfl;have e8:=fun y=>(W4.plus y).cs 7 _ rfl;have e9:=fun y=>(W4.plus y).cs 8 _ rfl;have qh1:=Zf (ZK ZG YA.out);have ZY:=Zf ZG;clear hW ZG cp ci YA Yo Vc Yv W4;open Z renaming acg→TT in exact TZ):P:=h
def apf(h:P:=by
 have W4:=YR ZG Vc.out;have e0:=fun y=>(W4.plus y).c0 _ rfl;simp only[Nat.mul_one]at e0;open Z renaming ajh→Jg in exact IM):P:=h
def apg(h:P:=by
 have qh1:=Zf (ZK ZG YA.out);have ZY:=Zf ZG;clear hW ZG cp ci YA Yo Yv;open Z renaming aci→TT in exact TZ):P:=h
def aph(h:P:=by
 open Z renaming alR→Jp in exact I6):P:=h
def api(h:P:=by
 open Z renaming alS→Jp in exact I6):P:=h
def apj(h:P:=by
 have X7:=YR ZG Vc.out;have e0:=fun y=>(X7.plus y).c0 _ rfl;have e1:=fun y=>(X7.plus y).cs 0 _ rfl;have e2:=fun y=>(X7.plus y).cs 1 _ rfl;have e3:=fun y=>(X7.plus y).cs 2 _ rfl;have e4:=fun y=>(X7.plus y).cs 3 _ rfl;have e5:=fun y=>(X7.plus y).cs 4 _ rfl;have e6:=fun y=>(X7.plus y).cs 5 _ rfl;have e7:=fun y=>(X7.plus y).cs 6 _ rfl;have e8:=fun y=>(X7.plus y).cs 7 _ rfl;have e9:=fun y=>(X7.plus y).cs 8 _ rfl;have qh1:=Zf (ZK ZG YA.out);have ZY:=Zf ZG;clear hW ZG cp ci YA Yo Vc Yv X7;have hv:=Ws.out;clear Ws;go_upto_region 9 with (fail)
 open Z renaming arY→TD in exact TG):P:=h
def pD(h:P:=by
 intro y0;obtain⟨p,cap,l⟩:=A;simp only[Sl.v]at hl hf ⊢;open Z renaming al0→G4 in exact DB):P:=h
def apk(h:P:=by
 simp only[hW]at hf ;rw[hn]at hl;clear hW;obtain⟨R,hR⟩:=ZB (l.all YK);have h0:(l.drop 0).all YK=R:=hR;open Z renaming ags→Pl in exact PI):P:=h
def apl(h:P:=by
 simp only[hW]at hf ;rw[hn]at hl;clear hW;obtain⟨R,hR⟩:=ZB (l.all may);have h0:(l.drop 0).all may=R:=hR;open Z renaming agt→Pl in exact PI):P:=h
def Qf(h:P:=by
 open Z renaming alM→zi in exact tP):P:=h
def apm(h:P:=by
 go_enter func55,ntmps55;go_wp2;go_loopw [10,23] (fun _ iv wr=>∃k:Nat,k≤n∧iv=.int .i64 (k:Int)∧Hid ((l.drop k).all may=R)∧∃y,wr=plus W y) (fun _ iv _=>n-(intOf iv).toNat)
 case atStart=>exact⟨0,Zw _,rfl,YM,⟨#[],W.drawn⟩,(Yk W).symm⟩
 case round =>
  obtain⟨k,hk,rfl,hs,y,rfl⟩:=hrel;by_cases ZC:k<n
  ·obtain⟨a,ha⟩:=Yq l k asG
   open Z renaming ap2→Rl in exact Rv
  ·exact TF):P:=h
def apn(h:P:=by
 go_enter func188,ntmps188;go_wp2;go_loopw [10,23] (fun _ iv wr=>∃k:Nat,k≤n∧iv=.int .i64 (k:Int)∧Hid ((l.drop k).all may=R)∧∃y,wr=plus W y) (fun _ iv _=>n-(intOf iv).toNat)
 case atStart=>exact⟨0,Zw _,rfl,YM,⟨#[],W.drawn⟩,(Yk W).symm⟩
 case round =>
  obtain⟨k,hk,rfl,hs,y,rfl⟩:=hrel;by_cases ZC:k<n
  ·obtain⟨a,ha⟩:=Yq l k asG
   open Z renaming ap3→Rl in exact Rv
  ·exact TF):P:=h
def apo(h:P:=by
 go_enter func53,ntmps53;go_wp2;go_loopw [10,23] (fun _ iv wr=>∃k:Nat,k≤n∧iv=.int .i64 (k:Int)∧Hid ((l.drop k).all may=R)∧∃y,wr=plus W y) (fun _ iv _=>n-(intOf iv).toNat)
 case atStart=>exact⟨0,Zw _,rfl,YM,⟨#[],W.drawn⟩,(Yk W).symm⟩
 case round =>
  obtain⟨k,hk,rfl,hs,y,rfl⟩:=hrel;by_cases ZC:k<n
  ·obtain⟨a,ha⟩:=Yq l k asG
   open Z renaming ap4→Rl in exact Rv
  ·exact TF):P:=h
def apq(h:P:=by
 go_enter func57,ntmps57;go_wp2;go_loopw [10,23] (fun _ iv wr=>∃k:Nat,k≤n∧iv=.int .i64 (k:Int)∧Hid ((l.drop k).all may=R)∧∃y,wr=plus W y) (fun _ iv _=>n-(intOf iv).toNat)
 case atStart=>exact⟨0,Zw _,rfl,YM,⟨#[],W.drawn⟩,(Yk W).symm⟩
 case round =>
  obtain⟨k,hk,rfl,hs,y,rfl⟩:=hrel;by_cases ZC:k<n
  ·obtain⟨a,ha⟩:=Yq l k asG
   open Z renaming ap5→Rl in exact Rv
  ·exact TF):P:=h
def apr(h:P:=by
 go_enter func59,ntmps59;go_wp2;go_loopw [10,23] (fun _ iv wr=>∃k:Nat,k≤n∧iv=.int .i64 (k:Int)∧Hid ((l.drop k).all may=R)∧∃y,wr=plus W y) (fun _ iv _=>n-(intOf iv).toNat)
 case atStart=>exact⟨0,Zw _,rfl,YM,⟨#[],W.drawn⟩,(Yk W).symm⟩
 case round =>
  obtain⟨k,hk,rfl,hs,y,rfl⟩:=hrel;by_cases ZC:k<n
  ·obtain⟨a,ha⟩:=Yq l k asG
   open Z renaming ap6→Rl in exact Rv
  ·exact TF):P:=h
def aps(h:P:=by
 go_enter func61,ntmps61;go_wp2;go_loopw [10,23] (fun _ iv wr=>∃k:Nat,k≤n∧iv=.int .i64 (k:Int)∧Hid ((l.drop k).all may=R)∧∃y,wr=plus W y) (fun _ iv _=>n-(intOf iv).toNat)
 case atStart=>exact⟨0,Zw _,rfl,YM,⟨#[],W.drawn⟩,(Yk W).symm⟩
 case round =>
  obtain⟨k,hk,rfl,hs,y,rfl⟩:=hrel;by_cases ZC:k<n
  ·obtain⟨a,ha⟩:=Yq l k asG
   open Z renaming ap7→Rl in exact Rv
  ·exact TF):P:=h
def apt(h:P:=by
 go_enter func133,ntmps133;go_wp2;go_loopw [10,23] (fun _ iv wr=>∃k:Nat,k≤n∧iv=.int .i64 (k:Int)∧Hid ((l.drop k).all may=R)∧∃y,wr=plus W y) (fun _ iv _=>n-(intOf iv).toNat)
 case atStart=>exact⟨0,Zw _,rfl,YM,⟨#[],W.drawn⟩,(Yk W).symm⟩
 case round =>
  obtain⟨k,hk,rfl,hs,y,rfl⟩:=hrel;by_cases ZC:k<n
  ·obtain⟨a,ha⟩:=Yq l k asG
   open Z renaming ap8→Rl in exact Rv
  ·exact TF):P:=h
def apu(h:P:=by
 go_enter func135,ntmps135;go_wp2;go_loopw [10,23] (fun _ iv wr=>∃k:Nat,k≤n∧iv=.int .i64 (k:Int)∧Hid ((l.drop k).all may=R)∧∃y,wr=plus W y) (fun _ iv _=>n-(intOf iv).toNat)
 case atStart=>exact⟨0,Zw _,rfl,YM,⟨#[],W.drawn⟩,(Yk W).symm⟩
 case round =>
  obtain⟨k,hk,rfl,hs,y,rfl⟩:=hrel;by_cases ZC:k<n
  ·obtain⟨a,ha⟩:=Yq l k asG
   open Z renaming ap9→Rl in exact Rv
  ·exact TF):P:=h
def apv(h:P:=by
 go_enter func138,ntmps138;go_wp2;go_loopw [10,23] (fun _ iv wr=>∃k:Nat,k≤n∧iv=.int .i64 (k:Int)∧Hid ((l.drop k).all may=R)∧∃y,wr=plus W y) (fun _ iv _=>n-(intOf iv).toNat)
 case atStart=>exact⟨0,Zw _,rfl,YM,⟨#[],W.drawn⟩,(Yk W).symm⟩
 case round =>
  obtain⟨k,hk,rfl,hs,y,rfl⟩:=hrel;by_cases ZC:k<n
  ·obtain⟨a,ha⟩:=Yq l k asG
   open Z renaming aqa→Rl in exact Rv
  ·exact TF):P:=h
def apw(h:P:=by
 go_enter func191,ntmps191;go_wp2;go_loopw [10,23] (fun _ iv wr=>∃k:Nat,k≤n∧iv=.int .i64 (k:Int)∧Hid ((l.drop k).all may=R)∧∃y,wr=plus W y) (fun _ iv _=>n-(intOf iv).toNat)
 case atStart=>exact⟨0,Zw _,rfl,YM,⟨#[],W.drawn⟩,(Yk W).symm⟩
 case round =>
  obtain⟨k,hk,rfl,hs,y,rfl⟩:=hrel;by_cases ZC:k<n
  ·obtain⟨a,ha⟩:=Yq l k asG
   open Z renaming aqb→Rl in exact Rv
  ·exact TF):P:=h
def apx(h:P:=by
 go_enter func214,ntmps214;go_wp2;go_loopw [10,23] (fun _ iv wr=>∃k:Nat,k≤n∧iv=.int .i64 (k:Int)∧Hid ((l.drop k).all may=R)∧∃y,wr=plus W y) (fun _ iv _=>n-(intOf iv).toNat)
 case atStart=>exact⟨0,Zw _,rfl,YM,⟨#[],W.drawn⟩,(Yk W).symm⟩
 case round =>
  obtain⟨k,hk,rfl,hs,y,rfl⟩:=hrel;by_cases ZC:k<n
  ·obtain⟨a,ha⟩:=Yq l k asG
   open Z renaming aqc→Rl in exact Rv
  ·exact TF):P:=h
def MG(h:P:=by
 have i3:=ce 3 (some (.int .u8 ZU)) rfl;have i4:=ce 4 (some (.string ZI)) rfl;have i5:=ce 5 (some (.string ZJ)) rfl;have i6:=ce 6 (some (.int .u8 Ye)) rfl;have i7:=ce 7 (some (.int .i64 Yd)) rfl;have i8:=ce 8 (some (.int .u64 Z9)) rfl;have i9:=ce 9 (some (.int .u64 Ya)) rfl;have i10:=ce 10 (some (.string Z5)) rfl;have i11:=ce 11 (some (.string Z6)) rfl;have i12:=ce 12 (some (.int .i64 Z8)) rfl;have i13:=ce 13 (some (.int .i64 Yb)) rfl;have i14:=ce 14 (some (.slice Z7 Yf Z4)) rfl;have i15:=ce 15 (some (.slice Z0 ZW ZZ)) rfl;have i16:=ce 16 (some (.slice Z3 ZX Z1)) rfl;have ZG:=Zf (show ∃z,W=plus V z from⟨zW,Yn⟩);exact NZ):P:=h
def apy(h:P:=by
 clear eW Yn cg ce;have m6:=n6.out;have m7:=n7.out;have m10:=n10.out;have m12:=n12.out;have m14:=n14.out;go_wp2;go_ret;exact⟨congrArg (fun z=>Zd (Zz .i64 z)) (ZR.out),as6⟩):P:=h
def apz(h:P:=by
 have q1:=Zf (ZK Yn kS'.out);clear eW Yn cg ce kS';go_wp2_with (first|(go_at_call 43;with_reducible refine (q1.out _).mono ?_;rintro r w' ⟨rfl,x,rfl⟩));exact re):P:=h
def apA(h:P:=by
 have ZC:=(Zi.1 Wr.out).1;have Ub:=(Zi.1 Yo.out).1;obtain⟨pa,Yw,Vv⟩:=XV.out a s Wr.out;obtain⟨ca,hca,Rf⟩:=Vc.out b c Yo.out;have Vv:=YR Yn Vv;have Rf:=YR Yn Rf;have q1:=Zf (ZK Yn kC'.out);have s0:∀y,(plus W y).cell? (pa.add (a*5))=some (.string s.name):=fun y=>(Vv.plus y).c0 _ rfl;have s1:∀y,(plus W y).cell? ⟨(pa.add (a*5)).block,(pa.add (a*5)).off+1,none⟩=some (.slice s.takes.p s.takes.l.length s.takes.cap):=fun y=>(Vv.plus y).cs 0 _ rfl;have s2:∀y,(plus W y).cell? ⟨(pa.add (a*5)).block,(pa.add (a*5)).off+2,none⟩=some (.string s.tX9):=fun y=>(Vv.plus y).cs 1 _ rfl;have s3:∀y,(plus W y).cell? ⟨(pa.add (a*5)).block,(pa.add (a*5)).off+3,none⟩=some (.slice s.keys.p s.keys.l.length s.keys.cap):=fun y=>(Vv.plus y).cs 2 _ rfl;have s4:∀y,(plus W y).cell? ⟨(pa.add (a*5)).block,(pa.add (a*5)).off+4,none⟩=some (.slice s.cases.p s.cases.l.length s.cases.cap):=fun y=>(Vv.plus y).cs 3 _ rfl;have u0:∀y,(plus W y).cell? (ca.add (b*3))=some (.bool c.dflt):=fun y=>(Rf.plus y).c0 _ rfl;have u1:∀y,(plus W y).cell? ⟨(ca.add (b*3)).block,(ca.add (b*3)).off+1,none⟩=some (.slice c.sets.p c.sets.l.length c.sets.cap):=fun y=>(Rf.plus y).cs 0 _ rfl;have u2:∀y,(plus W y).cell? ⟨(ca.add (b*3)).block,(ca.add (b*3)).off+2,none⟩=some (.string c.tX9):=fun y=>(Rf.plus y).cs 1 _ rfl;rw[Yw]at g2 q1;rw[hca]at s4 q1;clear Vv Rf Yw hca eW Yn cg ce kC' XV Vc Wr Yo;have Sg:¬((a:Int)<0):=asB;have KR:¬((b:Int)<0):=asB;go_upto_region 11 with (fail)
 refine Wj 19 asC asC ?_;open Z renaming aiC→Gz in exact E7):P:=h
def apB(h:P:=by
 have ZC:=(Zi.1 Wr.out).1;obtain⟨pa,Yw,Vv⟩:=XV.out a s Wr.out;have Vv:=YR Yn Vv;have q1:=Zf (fun x hx=>ZK Yn (kK'.out x hx));have Xi:=Zf (show Xa W 9 Ex.cells s.keys.p s.keys.l by rw[Yn];exact Pg.out.plus _);have s3:∀y,(plus W y).cell? ⟨(pa.add (a*5)).block,(pa.add (a*5)).off+3,none⟩=some (.slice s.keys.p s.keys.l.length s.keys.cap):=fun y=>(Vv.plus y).cs 2 _ rfl;obtain⟨nS,hpS⟩:=ZB p.states.p;rw[Yw]at g2 q1;obtain⟨n,hnn⟩:=ZB s.keys.l.length;rw[hnn]at s3 ZO;have TA:=Zf hnn;clear Vv Yw hnn eW Yn cg ce kK' XV Pg Wr hpS;have Sg:¬((a:Int)<0):=asB;go_wp2;go_loopw [6,7] (fun iv _ wr=>∃k:Nat,k≤n∧iv=.int .i64 (k:Int)∧(∃z,wr=plus W z)∧Hid (∀j y,j<k→(s.keys.l.map (VA p))[j]?=some y→y=0)) (fun iv _ _=>n-(intOf iv).toNat)
 case atStart=>exact⟨0,Zw _,rfl,⟨_,rfl⟩,Zf (fun j y h=>absurd h (Nat.not_lt_zero j))⟩
 case round =>
  obtain⟨k,hk,rfl,⟨zr,rfl⟩,hJ⟩:=hrel;by_cases Ub:k<n
  ·obtain⟨x,hx⟩:=Yq s.keys.l k (by rw[TA.out];exact Ub)
   obtain⟨ka,hka,YZ⟩:=Xi.out k x hx;have q2:=Zf (q1.out x (Zo hx));have Vw:(s.keys.l.map (VA p))[k]?=some (VA p x):=aui;obtain⟨E,hE⟩:=ZB (VA p x);rw[hE]at q2 Vw;have Vf:=Zf Vw;have a6:=Zf (Y7 k n Ub ZO.out);have d0:∀y,(plus W y).cell? (ka.add (k*9))=some (.int .u8 x.op):=fun y=>(YZ.plus y).c0 _ rfl;have d1:∀y,(plus W y).cell? ⟨(ka.add (k*9)).block,(ka.add (k*9)).off+1,none⟩=some (.int .i64 x.lit.w):=fun y=>(YZ.plus y).cs 0 _ rfl;have d2:∀y,(plus W y).cell? ⟨(ka.add (k*9)).block,(ka.add (k*9)).off+2,none⟩=some (.int .u64 x.lit.h):=fun y=>(YZ.plus y).cs 1 _ rfl;have d3:∀y,(plus W y).cell? ⟨(ka.add (k*9)).block,(ka.add (k*9)).off+3,none⟩=some (.int .u64 x.lit.l):=fun y=>(YZ.plus y).cs 2 _ rfl;have d4:∀y,(plus W y).cell? ⟨(ka.add (k*9)).block,(ka.add (k*9)).off+4,none⟩=some (.string x.head):=fun y=>(YZ.plus y).cs 3 _ rfl;have d5:∀y,(plus W y).cell? ⟨(ka.add (k*9)).block,(ka.add (k*9)).off+5,none⟩=some (.string x.name):=fun y=>(YZ.plus y).cs 4 _ rfl;have d6:∀y,(plus W y).cell? ⟨(ka.add (k*9)).block,(ka.add (k*9)).off+6,none⟩=some (.int .i64 x.hi):=fun y=>(YZ.plus y).cs 5 _ rfl;have d7:∀y,(plus W y).cell? ⟨(ka.add (k*9)).block,(ka.add (k*9)).off+7,none⟩=some (.int .i64 x.lo):=fun y=>(YZ.plus y).cs 6 _ rfl;have d8:∀y,(plus W y).cell? ⟨(ka.add (k*9)).block,(ka.add (k*9)).off+8,none⟩=some (.slice x.p x.args.length x.cap):=fun y=>(YZ.plus y).cs 7 _ rfl;rw[hka]at s3 ⊢;clear YZ hE Vw hx hka;have hnegk:¬((k:Int)<0):=asB;go_upto_region 7 with (fail)
   open Z renaming ajW→GJ in exact Dj
  ·obtain rfl:k=n:=by omega
   go_wp2;go_ret;exact⟨congrArg (fun z=>Zd (Zz .i64 z)) ((P0 _ fun j y hy=>hJ.out j y (by have:=(Zi.1 hy).1;rw[List.length_map,TA.out]at this;exact this) hy).symm.trans ZR.out),as6⟩):P:=h
def apC(h:P:=by
 have ZC:=(Zi.1 Wr.out).1;have hltb:=(Zi.1 SD.out).1;obtain⟨pa,Yw,Vv⟩:=XV.out a t Wr.out;have Vv:=YR Yn Vv;have Xi:=Zf (show Xa W 10 Ke.cells t.keys.p t.keys.l by rw[Yn];exact Pg.out.plus _);obtain⟨ka,hka,YZ⟩:=Xi.out b k SD.out;have q1:=Zf (ZK Yn kK'.out);have s1:∀y,(plus W y).cell? ⟨(pa.add (a*5)).block,(pa.add (a*5)).off+1,none⟩=some (.slice t.keys.p t.keys.l.length t.keys.cap):=fun y=>(Vv.plus y).cs 0 _ rfl;have d0:∀y,(plus W y).cell? (ka.add (b*10))=some (.int .u8 k.e.op):=fun y=>(YZ.plus y).c0 _ rfl;have d1:∀y,(plus W y).cell? ⟨(ka.add (b*10)).block,(ka.add (b*10)).off+1,none⟩=some (.int .i64 k.e.lit.w):=fun y=>(YZ.plus y).cs 0 _ rfl;have d2:∀y,(plus W y).cell? ⟨(ka.add (b*10)).block,(ka.add (b*10)).off+2,none⟩=some (.int .u64 k.e.lit.h):=fun y=>(YZ.plus y).cs 1 _ rfl;have d3:∀y,(plus W y).cell? ⟨(ka.add (b*10)).block,(ka.add (b*10)).off+3,none⟩=some (.int .u64 k.e.lit.l):=fun y=>(YZ.plus y).cs 2 _ rfl;have d4:∀y,(plus W y).cell? ⟨(ka.add (b*10)).block,(ka.add (b*10)).off+4,none⟩=some (.string k.e.head):=fun y=>(YZ.plus y).cs 3 _ rfl;have d5:∀y,(plus W y).cell? ⟨(ka.add (b*10)).block,(ka.add (b*10)).off+5,none⟩=some (.string k.e.name):=fun y=>(YZ.plus y).cs 4 _ rfl;have d6:∀y,(plus W y).cell? ⟨(ka.add (b*10)).block,(ka.add (b*10)).off+6,none⟩=some (.int .i64 k.e.hi):=fun y=>(YZ.plus y).cs 5 _ rfl;have d7:∀y,(plus W y).cell? ⟨(ka.add (b*10)).block,(ka.add (b*10)).off+7,none⟩=some (.int .i64 k.e.lo):=fun y=>(YZ.plus y).cs 6 _ rfl;have d8:∀y,(plus W y).cell? ⟨(ka.add (b*10)).block,(ka.add (b*10)).off+8,none⟩=some (.slice k.e.p k.e.args.length k.e.cap):=fun y=>(YZ.plus y).cs 7 _ rfl;have d9:∀y,(plus W y).cell? ⟨(ka.add (b*10)).block,(ka.add (b*10)).off+9,none⟩=some (.int .u8 k.kind):=fun y=>(YZ.plus y).cs 8 _ rfl;have hka':=Zf hka;rw[hka]at s1;rw[Yw]at g4 q1;clear Vv YZ hka Yw eW Yn cg ce kK' XV Pg Wr;have Sg:¬((a:Int)<0):=asB;have hnegb:¬((b:Int)<0):=asB;go_upto_region 16 with (fail)
 refine Wj 8 asC asC ?_;open Z renaming aiD→Gz in exact E7):P:=h
def apD(h:P:=by
 have ZC:=(Zi.1 Wr.out).1;have hltx:=(Zi.1 VY.out).1;obtain⟨pa,Yw,Vv⟩:=XV.out a t Wr.out;have Vv:=YR Yn Vv;obtain⟨pb,Xx,YZ⟩:=hra'.out kx x VY.out;have YZ:=YR Yn YZ;have s3:∀y,(plus W y).cell? ⟨(pa.add (a*5)).block,(pa.add (a*5)).off+3,none⟩=some (.string t.dflt.name):=fun y=>(Vv.plus y).cs 2 _ rfl;have s4:∀y,(plus W y).cell? ⟨(pa.add (a*5)).block,(pa.add (a*5)).off+4,none⟩=some (.slice t.dflt.args.p t.dflt.args.l.length t.dflt.args.cap):=fun y=>(Vv.plus y).cs 3 _ rfl;have x1:∀y,(plus W y).cell? ⟨(pb.add (kx*3)).block,(pb.add (kx*3)).off+1,none⟩=some (.slice x.params.p x.params.l.length x.params.cap):=fun y=>(YZ.plus y).cs 0 _ rfl;have hrpW:Xa W 2 Fd.cells x.params.p x.params.l:=by rw[Yn];exact hrp'.out.plus _
 have hrlW:Xa W 3 Lt.cells t.dflt.args.p t.dflt.args.l:=by rw[Yn];exact hrl'.out.plus _
 have kAW:=(show Kp Zx W 44 #[.agg #[.slice p.headers.p p.headers.l.length p.headers.cap,.slice p.metas.p p.metas.l.length p.metas.cap,.slice p.states.p p.states.l.length p.states.cap,.slice p.actions.p p.actions.l.length p.actions.cap,.slice p.tables.p p.tables.l.length p.tables.cap,.slice p.control.p p.control.l.length p.control.cap,.slice p.emit.p p.emit.l.length p.emit.cap],.string t.dflt.name] (.int .i64 (kx:Int)) by rw[Yn];exact kA'.out.up _);have kLW:=(show ∀y,y∈t.dflt.args.l→∀v:Int,Kp Zx W 45 #[.agg #[.int .i64 y.w,.int .u64 y.h,.int .u64 y.l],.int .i64 v] (.int .i64 (Wg y v)) from fun y hy v=>by rw[Yn];exact (kL'.out y hy v).up _);rw[Yw]at g4 kAW;rw[Xx]at g3 kAW;clear Vv YZ Yw Xx eW Yn cg ce kA' kL' XV hra' hrp' hrl' Wr;have Sg:¬((a:Int)<0):=asB;have hnegx:¬((kx:Int)<0):=asB;have hltx2:(kx:Int)<(p.actions.l.length:Int):=asB;go_upto_region 26 with (fail)
 obtain⟨X,yX,eX,⟨zX,ZE⟩,ct⟩:=YO (plus W yW) _ 56;rw[eX];have hX:X=plus W _:=ZE.trans (ZD _ _ _);have t0:=ct 0 (some (.string t.dflt.name)) rfl;have t1:=ct 1 (some (.slice t.dflt.args.p t.dflt.args.l.length t.dflt.args.cap)) rfl;replace g0:=ZM hX g0;replace g1:=ZM hX g1;replace g2:=ZM hX g2;replace g3:=ZM hX g3;replace g4:=ZM hX g4;replace g5:=ZM hX g5;replace g6:=ZM hX g6;replace x1:=ZM hX x1;have q1:=Zf (ZK hX kAW);have kLX:=Zf (show ∀y,y∈t.dflt.args.l→∀v:Int,Kp Zx X 45 #[.agg #[.int .i64 y.w,.int .u64 y.h,.int .u64 y.l],.int .i64 v] (.int .i64 (Wg y v)) from fun y hy v=>by rw[hX];exact (kLW y hy v).up _);have hrpX:=Zf (show Xa X 2 Fd.cells x.params.p x.params.l by rw[hX];exact hrpW.plus _);have hrlX:=Zf (show Xa X 3 Lt.cells t.dflt.args.p t.dflt.args.l by rw[hX];exact hrlW.plus _);replace ZG:=Zf (show ∃z,X=plus V z by obtain⟨z,h⟩:=ZG.out;rw[hX,h,ZD];exact⟨_,rfl⟩);clear eX ZE ct hX kAW kLW hrpW hrlW s3 s4 i3 i4 i5 i6 i7 i8 i9 i10 i11 i12 i13 i14 i15 i16;refine Wj 9 asC asC ?_;open Z renaming aiE→Gz in exact E7):P:=h
def PQ(h:P:=by
 have uma:=YR ZE ma'.out;have a0:=fun y=>(uma.plus y).c0 _ rfl;have a1:=fun y=>(uma.plus y).cs 0 _ rfl;have a2:=fun y=>(uma.plus y).cs 1 _ rfl;have a3:=fun y=>(uma.plus y).cs 2 _ rfl;have a4:=fun y=>(uma.plus y).cs 3 _ rfl;have a5:=fun y=>(uma.plus y).cs 4 _ rfl;have a6:=fun y=>(uma.plus y).cs 5 _ rfl;have a7:=fun y=>(uma.plus y).cs 6 _ rfl;have a8:=fun y=>(uma.plus y).cs 7 _ rfl;clear uma;exact Pn):P:=h
def apE(h:P:=by
 have ZY:=Zf ZE;clear hX ca cb cc fc ZE ka' ma';go_upto_region 3 with (fail)
 open Z renaming ao7→G9 in exact D2):P:=h
def apF(h:P:=by
 have ZY:=Zf ZE;clear hX ca cb cc fc ZE ka' ko' ma';subst h1;go_upto_region 3 with (fail)
 go_cut [5] from 13 to 18 (fun s5 wx=>∃b:Nat,s5=.pointer (some ⟨b,0,none⟩)∧PW X b ⟨tw,tt,tf⟩ wx)
 case first =>
  exact LZ
 case rest =>
  open Z renaming aor→NY in exact MF):P:=h
def apG(h:P:=by
 have ZY:=Zf ZE;clear hX ca cb cc fc ZE ka' ko' ma';subst h1;go_upto_region 3 with (fail)
 exact vx):P:=h
def apH(h:P:=by
 open Z renaming acn→Gl in exact EK):P:=h
def apI(h:P:=by
 open Z renaming aco→Gl in exact EK):P:=h
def apJ(h:P:=by
 open Z renaming acp→Gl in exact EK):P:=h
def apK(h:P:=by
 have ZY:=Zf ZE;clear hX ca cb cc fc ZE ka' ko' ma';go_upto_region 3 with (fail)
 rw[show ((en:Int)==0)=false from beq_eq_false_iff_ne.2 asB];go_cut [5] from 13 to 18 (fun s5 wx=>∃b:Nat,s5=.pointer (some ⟨b,0,none⟩)∧PW X b ⟨tw,false,false⟩ wx)
 case first =>
  open Z renaming ao5→G9 in exact D2
 case rest =>
  open Z renaming aos→NY in exact MF):P:=h
def apL(h:P:=by
 have ZY:=Zf ZE;clear hX ca cb cc fc ZE ka' ko' ma';go_upto_region 3 with (fail)
 rw[show ((en:Int)==0)=false from beq_eq_false_iff_ne.2 asB];exact vx):P:=h
def MH(h:P:=by
 go_enter func187,ntmps187;go_wp2_with fail;obtain⟨W,yy,hW,⟨z,hz⟩,cb0,cb1⟩:=Xu V _ _ 215 45;open Z renaming af3→NP in exact Mu):P:=h
def apM(h:P:=by
 have c1_8:=cb1 8 _ rfl;have q0c:=Zf (ZK hz h0.out);open Z renaming pK→Ls in exact Kj):P:=h
def apN(h:P:=by
 have c1_8:=cb1 8 _ rfl;have q0c:=Zf (ZK hz h0.out);have q1c:=Zf (ZK hz h1.out);open Z renaming pO→Ls in exact Kj):P:=h
def apO(h:P:=by
 have c1_8:=cb1 8 _ rfl;open Z renaming aio→OB in exact OZ):P:=h
def apP(h:P:=by
 have c1_8:=cb1 8 _ rfl;open Z renaming aip→OB in exact OZ):P:=h
def apQ(h:P:=by
 have c1_8:=cb1 8 _ rfl;open Z renaming aiq→OB in exact OZ):P:=h
def apR(h:P:=by
 have c1_8:=cb1 8 _ rfl;exact Ju):P:=h
def Kl(h:P:=by
 have b1:=ce 1 (some (.string ZI)) rfl;have b2:=ce 2 (some (.string ZJ)) rfl;have b3:=ce 3 (some (.int .u8 op)) rfl;have b4:=ce 4 (some (.int .i64 lw)) rfl;have b5:=ce 5 (some (.int .u64 lh)) rfl;have b6:=ce 6 (some (.int .u64 ll)) rfl;have b7:=ce 7 (some (.string hd)) rfl;have b8:=ce 8 (some (.string nm)) rfl;have b9:=ce 9 (some (.int .i64 eh)) rfl;have b10:=ce 10 (some (.int .i64 el)) rfl;have b11:=ce 11 (some (.slice ep en ec)) rfl;have b12:=ce 12 (some (.slice tp tn tc)) rfl;have b13:=ce 13 (some (.slice up un uc)) rfl;exact Lu):P:=h
def apS(h:P:=by
 have qh1:=Zf (ZK Yn YA.out);have qh2:=Zf (ZK Yn Xg.out);have dW:=YR Yn d'.out;have d0:=fun y=>(dW.plus y).c0 _ rfl;have d1:=fun y=>(dW.plus y).cs 0 _ rfl;clear dW d';have ZG:=Zf (show ∃z,W=plus V z from⟨zW,Yn⟩);clear eW Yn cg ce YA Xg;have Sg:¬((i:Int)<0):=asB;have ZC:(i:Int)<(n:Int):=asB;have e1:=he.out;have e2:ZI.toList.isEmpty=true:=by simpa using e1
 go_upto_region 4 with (fail)
 refine Wj 14 asC asC ?_;simp only[Zs,List.take_zero,Zg,Zh];repeat (go_big_quiet_step (first|(with_reducible exact qh1.out _)|(with_reducible exact qh2.out _)))
 exact sU):P:=h
def apT(h:P:=by
 have qh1:=Zf (ZK Yn YA.out);have qh2:=Zf (ZK Yn Xg.out);have qh3:=Zf (ZK Yn VP.out);have dW:=YR Yn d'.out;have d0:=fun y=>(dW.plus y).c0 _ rfl;have d1:=fun y=>(dW.plus y).cs 0 _ rfl;clear dW d';have xW:=YR Yn x'.out;have x0:=fun y=>(xW.plus y).c0 _ rfl;have x1:=fun y=>(xW.plus y).cs 0 _ rfl;clear xW x';have ZG:=Zf (show ∃z,W=plus V z from⟨zW,Yn⟩);clear eW Yn cg ce YA Xg VP;have Sg:¬((k:Int)<0):=asB;have KR:¬((i:Int)<0):=asB;have e1:=he.out;have e2:ZI.toList.isEmpty=false:=by simpa using e1
 go_upto_region 6 with (first|(go_at_call 119;with_reducible refine (qh1.out _).mono ?_;rintro r w' ⟨rfl,x,rfl⟩))
 refine Wj 19 asC asC ?_;open Z renaming sU→zj in exact tR):P:=h
def apU(h:P:=by
 have qkO:=Zf (ZK Yn kO'.out);have ZG:=Zf (show ∃z,W=plus V z from⟨zW,Yn⟩);clear eW Yn cg ce kO';go_upto_region 9 with (first|(go_at_call 115;with_reducible refine (qkO.out _).mono ?_;rintro r w' ⟨rfl,x,rfl⟩))
 open Z renaming acu→BH in exact wC):P:=h
def apV(h:P:=by
 have qkO:=Zf (ZK Yn kO'.out);have ZG:=Zf (show ∃z,W=plus V z from⟨zW,Yn⟩);clear eW Yn cg ce kO';go_upto_region 14 with (first|(go_at_call 115;with_reducible refine (qkO.out _).mono ?_;rintro r w' ⟨rfl,x,rfl⟩))
 open Z renaming acv→BH in exact wC):P:=h
def apW(h:P:=by
 have ZG:=Zf (show ∃z,W=plus V z from⟨zW,Yn⟩);clear eW Yn cg ce ;have n1:=o1.out;have n2:=o2.out;have n5:=o5.out;go_wp2;go_ret;exact⟨rfl,auw⟩):P:=h
def Hu(h:P:=by
 clear hK K;refine wpAnyH_ready (rs:=[16]) asC asD ?_;refine Za rfl (fun K hK=>?_) AllReadyH.nil;go_simp;refine hK.out _ _ Pc (fun M6=>?_);clear hK K;refine wpAnyH_ready (rs:=[17]) asC asD ?_;refine Za rfl (fun K hK=>?_) AllReadyH.nil;have UA:=B5.at.keys;have f7:=B5.frozen 7;go_simp;have hne7:eb≠cb:=by have:=Heb.out;have:=Hlt.out;omega
 refine hK.out _ _ (M6.keep (fun j v hj q=>(ZA _ _ _ _ (fun e=>atP)).trans q) (fun j v q=>(World.cell?_setCell_far W5 ⟨cb,7,none⟩ ⟨eb,j,none⟩ _ (fun e=>hne7 e.symm)).trans q)) (fun _=>?_);exact Jv):P:=h
def apX(h:P:=by
 clear hK K UA f7 Pc M6 Bk;open Z renaming afW→K5 in exact Iv):P:=h
def apY(h:P:=by
 clear hK K UA f7 Pc M6 Bp;open Z renaming afX→K5 in exact Iv):P:=h
def apZ(h:P:=by
 clear hK K UA f7 Pc M6 Br;open Z renaming afY→K5 in exact Iv):P:=h
def ap0(h:P:=by
 clear hK K UA f7 Pc M6 Bu;open Z renaming afZ→K5 in exact Iv):P:=h
def Rv(h:P:=by
 obtain⟨pa,rfl,hc⟩:=YV.out k a ha;have q1:=Wi.out a (Zo ha);have ZQ:(may a&&(l.drop (k+1)).all may)=R:=aum;obtain⟨Z,hZ⟩:=ZB (may a);rw[hZ]at q1 ZQ;exact Rl):P:=h
def ap1(h:P:=by
 have d0:=fun y=>(hc.plus y).c0 _ rfl;simp only[Nat.mul_one]at d0;have q1':=Zf q1;have a6:=Zf (Y7 k n ZC Yt.out);clear q1 hZ hc ha hs ;cases Z with
 | true =>
  have ZP:=Zf (show (l.drop (k+1)).all may=R by rw[←ZQ,Bool.true_and]);clear ZQ;go_wp2_with (refine (q1'.out _).mono ?_;rintro e w' ⟨rfl,x,rfl⟩);go_roundw
  case rel=>exact⟨k+1,ZC,congrArg (Zz .i64) a6.out,ZP,x,rfl⟩
  case measure=>exact Y9 k n ZC a6.out
 | false =>
  have ZP:=Zf (show false=R by rw[←ZQ,Bool.false_and]);clear ZQ;go_wp2_with (refine (q1'.out _).mono ?_;rintro e w' ⟨rfl,x,rfl⟩);go_ret;exact⟨congrArg (fun z=>Zd (Zy z)) ZP.out,x,rfl⟩):P:=h
def ap2(h:P:=by
 obtain⟨c0,c1,ea⟩:=YY.out a;exact oc):P:=h
def ap3(h:P:=by
 obtain⟨c0,c1,c2,c3,c4,c5,c6,c7,c8p,c8n,c8c,ea⟩:=YY.out a;rw[ea]at q1;open Z renaming aqV→Lv in exact Km):P:=h
def ap4(h:P:=by
 obtain⟨c0,c1p,c1n,c1c,ea⟩:=YY.out a;exact oc):P:=h
def ap5(h:P:=by
 open Z renaming oh→Jr in exact I7):P:=h
def ap6(h:P:=by
 obtain⟨c0,c1p,c1n,c1c,c2p,c2n,c2c,ea⟩:=YY.out a;exact Cc):P:=h
def ap7(h:P:=by
 open Z renaming oh→Jt in exact I8):P:=h
def ap8(h:P:=by
 obtain⟨c0,c1,c2,c3,c4,c5,c6,c7,c8p,c8n,c8c,c9,ea⟩:=YY.out a;rw[ea]at q1;open Z renaming aqW→Lv in exact Km):P:=h
def ap9(h:P:=by
 obtain⟨c0,c1,c2,ea⟩:=YY.out a;exact Cc):P:=h
def aqa(h:P:=by
 obtain⟨c0,c1,c2,c3,c4,c5,c6,c7,c8,c9,c10,c11p,c11n,c11c,c12p,c12n,c12c,c13p,c13n,c13c,ea⟩:=YY.out a;rw[ea]at q1;open Z renaming aqX→Lv in exact Km):P:=h
def aqb(h:P:=by
 obtain⟨c0,c1p,c1n,c1c,c2,ea⟩:=YY.out a;exact Cc):P:=h
def aqc(h:P:=by
 obtain⟨c0,c1,c2,c3,c4,c5,c6,ea⟩:=YY.out a;rw[ea]at q1;open Z renaming Na→Lv in exact Km):P:=h
def pI(h:P:=by
 open Z renaming aqY→Lv in exact Km):P:=h
def aqd(h:P:=by
 have Ym:=fun y X=>YG ((hd.plus y).c0 _ as7) X;have ZL:=fun y X=>YG ((hd.plus y).cs 0 _ as7) X;have ZT:=fun y X=>YG ((hd.plus y).cs 1 _ as7) X;have Ys:=fun y X=>YG ((hd.plus y).cs 2 _ as7) X;have YQ:=fun y X=>YG ((hd.plus y).cs 3 _ as7) X;have WF:=fun y X=>YG ((hd.plus y).cs 4 _ as7) X;have Vz:=fun y X=>YG ((hd.plus y).cs 5 _ as7) X;have UA:=fun y X=>YG ((hd.plus y).cs 6 _ as7) X;have asz:=fun y X=>YG ((hd.plus y).cs 7 _ as7) X;have q1':=Zf q1;have a6:=Zf (Y7 k n ZC Yt.out);clear q1 hZ hc hd ha hb hs ea eb;cases Z with
 | true =>
  have ZP:=Zf (show Vb f (l.drop (k+1)) (r.drop (k+1))=R by rw[←ZQ,Bool.true_and]);clear ZQ;go_wp2_with (refine yB q1'.out ?_;rintro e w' ⟨rfl,x,rfl⟩);go_roundw
  case rel=>exact⟨k+1,ZC,congrArg (Zz .i64) a6.out,ZP,x,rfl⟩
  case measure=>exact Y9 k n ZC a6.out
 | false =>
  have ZP:=Zf (show false=R by rw[←ZQ,Bool.false_and]);clear ZQ;go_wp2_with (refine yB q1'.out ?_;rintro e w' ⟨rfl,x,rfl⟩);go_ret;exact⟨congrArg (fun z=>Zd (Zy z)) ZP.out,x,rfl⟩):P:=h
def PR(h:P:=by
 obtain⟨pa,hp,hc⟩:=ZF.tables.row a x hx;have hl:=(Zi.1 hx).1;have hc1:Yg w (pa.add (a*5)) [.string x.name,.slice x.keys.p x.keys.l.length x.keys.cap,.slice x.actions.p x.actions.l.length x.actions.cap,.string x.dflt.name,.slice x.dflt.args.p x.dflt.args.l.length x.dflt.args.cap]:=hc;exact Po):P:=h
def aqe(h:P:=by
 have h1:=yD p w ZF hz x.name;have h2:=Px (Tp p.tables.l x.name) (a:Int) w;rw[hp]at h1 ⊢;exact aa8 _ _ _ _ _ _ _ _ _ _ _ _ _ _ _ _ _ _ _ _ _ _ _ _ _ _ _ _ _ _ _ _ _ _ _ _ _ _ _ _ _ _ _ _ _ _ _ _ _ _ _ _ _ _ _ (a) (hl) (hc1) (h1) (h2)):P:=h
def aqf(h:P:=by
 obtain⟨pb,Xx,hc2⟩:=(ZF.tables.kids x hm).keys.row b y hy;have XK:=(Zi.1 hy).1;rw[Xx]at hc1;have h1:=JR p w ZF hz (-1) y.e ((ZF.tables.kids x hm).keys.kids y US).e auB;rw[hp]at h1 ⊢;exact aa1 _ _ _ _ _ _ _ _ _ _ _ _ _ _ _ _ _ _ _ _ _ _ _ _ _ _ _ _ _ _ _ _ _ _ _ _ _ _ _ _ _ _ _ _ _ _ _ _ _ _ _ _ _ _ _ _ _ _ _ _ _ _ _ _ _ _ (a) (hl) (hc1) (b) (XK) (hc2) (h1)):P:=h
def aqg(h:P:=by
 obtain⟨pb,Xx,hc2⟩:=(ZF.tables.kids x hm).actions.row b y hy;have XK:=(Zi.1 hy).1;rw[Xx]at hc1;have h1:=JO p w ZF hz y;have h2:=yE (XD p.actions.l y) x.actions b y hy w (ZF.tables.kids x hm).actions aun;rw[hp]at h1 ⊢;simp only[Sl.v,Xx]at h2;exact aa2 _ _ _ _ _ _ _ _ _ _ _ _ _ _ _ _ _ _ _ _ _ _ _ _ _ _ _ _ _ _ _ _ _ _ _ _ _ _ _ _ _ _ _ _ _ _ _ _ _ _ _ _ _ _ _ _ (a) (hl) (hc1) (b) (XK) (hc2) (h1) (h2)):P:=h
def aqh(h:P:=by
 by_cases X8:XT x.actions.l x.dflt.name=-1
 ·have h1:=eA p w x.name x.keys.p x.keys.l.length x.keys.cap x.actions x.dflt.name x.dflt.args.p x.dflt.args.l.length x.dflt.args.cap (ZF.tables.kids x hm).actions aun X8
  rw[show SU x.actions.l x.dflt.name x.dflt.args.l.length (match p.actions.l[(XD p.actions.l x.dflt.name).toNat]? with|some z=>z.params.l.length|none=>0)=7 by unfold SU;rw[if_pos X8]];exact uW
 ·obtain⟨k,z,hk,ZG⟩:=Kt (hd X8)
  have h1:=eB p w ZF hz x.name x.keys.p x.keys.l.length x.keys.cap x.actions x.dflt.name x.dflt.args.p x.dflt.args.l.length x.dflt.args.cap (ZF.tables.kids x hm).actions aun X8 k z hk ZG;rw[hk,Int.toNat_natCast,ZG];exact uW):P:=h
def aqi(h:P:=by
 have h1:=yJ p w ZF hz x.name;rw[hp]at h1 ⊢;exact gL _ _ _ _ _ _ _ _ _ _ _ _ _ _ _ _ _ _ _ _ _ _ _ _ _ _ _ _ _ _ _ _ _ _ _ _ _ _ _ _ _ _ _ _ _ (mK _ _ _ _ _ _ _ _ _ _ _ _ _ _ _ _ _ _ _ _ _ _ _ _ _ _ _ _ _ _ _ _ _ _ _ _ _ _ _ _ _ _ _ _ _ _ _ _ _ _ _ _ _ _ _ (a) (hl) (hc1) (h1) (rfl))):P:=h
def aqj(h:P:=by
 obtain⟨pb,Xx,hc2⟩:=(ZF.tables.kids x hm).keys.row b y hy;have XK:=(Zi.1 hy).1;rw[Xx]at hc1;have h1:=Ew p w ZF hz (-1) y.e ((ZF.tables.kids x hm).keys.kids y US).e auB;rw[hp]at h1 ⊢;exact gM _ _ _ _ _ _ _ _ _ _ _ _ _ _ _ _ _ _ _ _ _ _ _ _ _ _ _ _ _ _ _ _ _ _ _ _ _ _ _ _ _ _ _ _ _ _ _ _ _ _ _ _ _ _ _ _ _ _ _ _ _ _ _ _ _ _ _ (a) (hl) (hc1) (b) (XK) (hc2) (h1) (rfl)):P:=h
def aqk(h:P:=by
 obtain⟨pb,Xx,hc2⟩:=(ZF.tables.kids x hm).actions.row b y hy;have XK:=(Zi.1 hy).1;rw[Xx]at hc1;have h2:=FU V2 w x.actions (ZF.tables.kids x hm).actions (Xk Y1 (fun y=>as8) x.actions auC) y;simp only[Sl.v,Xx]at h2;have h1:=JU p w ZF hz y;rw[hp]at h1 ⊢;exact gN _ _ _ _ _ _ _ _ _ _ _ _ _ _ _ _ _ _ _ _ _ _ _ _ _ _ _ _ _ _ _ _ _ _ _ _ _ _ _ _ _ _ _ _ _ (jL _ _ _ _ _ _ _ _ _ _ _ _ _ _ _ _ _ _ _ _ _ _ _ _ _ _ _ _ _ _ _ _ _ _ _ _ _ _ _ _ _ _ _ _ _ _ _ _ _ _ _ _ _ _ _ _ _ (a) (hl) (hc1) (b) (XK) (hc2) (h1) (h2) (RK (fun z:Ac=>z.name.toList==y.toList) p.actions.l) (rfl))):P:=h
def aql(h:P:=by
 have h2:=FU V2 w x.actions (ZF.tables.kids x hm).actions (Xk Y1 (fun y=>as8) x.actions auC) x.dflt.name;simp only[Sl.v]at h2;have h1:=JU p w ZF hz x.dflt.name;have gJ:=RK (fun z:ByteArray=>z.toList==x.dflt.name.toList) x.actions.l;by_cases X8:XT x.actions.l x.dflt.name=-1∨XD p.actions.l x.dflt.name=-1
 ·have hv:YU p (.num 14 a 0)=7:=by simp only[YU,WG,hx];exact if_pos X8
  rw[hv];have hJ:XT x.actions.l x.dflt.name=-1∨(¬XT x.actions.l x.dflt.name<0∧XD p.actions.l x.dflt.name=-1):=by
   rcases gJ with g|g
   ·exact .inl g
   ·exact .inr ⟨g,X8.resolve_left (fun e=>g (by rw[show YL (fun z:ByteArray=>z.toList==x.dflt.name.toList) x.actions.l 0=-1 from e];decide))⟩
  rw[hp]at h1 ⊢;exact yj _ _ _ _ _ _ _ _ _ _ _ _ _ _ _ _ _ _ _ _ _ _ _ _ _ _ _ _ _ _ _ _ _ _ _ _ _ _ _ _ _ _ _ _ _ (jI _ _ _ _ _ _ _ _ _ _ _ _ _ _ _ _ _ _ _ _ _ _ _ _ _ _ _ _ _ _ _ _ _ _ _ _ _ _ _ _ _ _ _ _ _ _ _ _ _ _ _ _ _ _ _ _ (a) (hl) (hc1) (h1) (h2) (hJ) (rfl))
 ·obtain⟨kx,z,hkx,ZG⟩:=Kt (fun e=>X8 (.inr e))
  have hv:YU p (.num 14 a 0)=(if x.dflt.args.l.length<z.params.l.length then 13 else if z.params.l.length<x.dflt.args.l.length then 5 else 0):=by
   simp only[YU,WG,hx];refine (if_neg X8).trans ?_;rw[hkx,Int.toNat_natCast,ZG]
  rw[hv];have hJ:¬XT x.actions.l x.dflt.name<0:=gJ.resolve_left (fun e=>X8 (.inl e));obtain⟨px,hpx,YZ⟩:=ZF.actions.row kx z ZG;have hlx:=(Zi.1 ZG).1;have hc3:Yg w (px.add (kx*3)) [.string z.name,.slice z.params.p z.params.l.length z.params.cap,.slice z.body.p z.body.l.length z.body.cap]:=YZ;rw[hkx]at h1;rw[hp,hpx]at h1 ⊢;exact yj _ _ _ _ _ _ _ _ _ _ _ _ _ _ _ _ _ _ _ _ _ _ _ _ _ _ _ _ _ _ _ _ _ _ _ _ _ _ _ _ _ _ _ _ _ (jJ _ _ _ _ _ _ _ _ _ _ _ _ _ _ _ _ _ _ _ _ _ _ _ _ _ _ _ _ _ _ _ _ _ _ _ _ _ _ _ _ _ _ _ _ _ _ _ _ _ _ _ _ _ _ _ _ _ _ _ _ _ _ (a) (hl) (hc1) (kx) (hlx) (hc3) (h1) (h2) (hJ) (rfl))):P:=h
def PS(h:P:=by
 obtain⟨pa,hp,hc⟩:=ZF.states.row a x hx;have hl:=(Zi.1 hx).1;have hc1:Yg w (pa.add (a*5)) [.string x.name,.slice x.takes.p x.takes.l.length x.takes.cap,.string x.tX9,.slice x.keys.p x.keys.l.length x.keys.cap,.slice x.cases.p x.cases.l.length x.cases.cap]:=hc;exact Pp):P:=h
def aqm(h:P:=by
 have h1:=yC p w ZF hz x.name;have h2:=Px (W9 p.states.l x.name).1 (a:Int) w;rw[hp]at h1 ⊢;exact aa6 _ _ _ _ _ _ _ _ _ _ _ _ _ _ _ _ _ _ _ _ _ _ _ _ _ _ _ _ _ _ _ _ _ _ _ _ _ _ _ _ _ _ _ _ _ _ _ _ _ _ _ _ _ _ _ _ (a) (hl) (hc1) (h1) (h2)):P:=h
def aqn(h:P:=by
 obtain⟨pb,Xx,hc2⟩:=(ZF.states.kids x hm).takes.row b y hy;have XK:=(Zi.1 hy).1;rw[Xx]at hc1;have h1:=OM p w ZF hz y;have h2:=LF (YF p.headers.l y) w;rw[hp]at h1 ⊢;exact aa9 _ _ _ _ _ _ _ _ _ _ _ _ _ _ _ _ _ _ _ _ _ _ _ _ _ _ _ _ _ _ _ _ _ _ _ _ _ _ _ _ _ _ _ _ _ _ _ _ _ _ _ _ _ _ _ _ (a) (hl) (hc1) (b) (XK) (hc2) (h1) (h2)):P:=h
def aqo(h:P:=by
 have h1:=eD p w ZF hz x (ZF.states.kids x hm) (by have:=YW Sa.sz p.states.l x hm;unfold Pr.sz Sl.size at hz;omega);rw[hp]at h1 ⊢;simp only[Sa.cells,Sl.v]at h1;exact aa4 _ _ _ _ _ _ _ _ _ _ _ _ _ _ _ _ _ _ _ _ _ _ _ _ _ _ _ _ _ _ _ _ _ _ _ _ _ _ _ _ _ _ _ _ _ _ _ _ _ _ _ _ _ _ (a) (hl) (hc1) (h1)):P:=h
def aqp(h:P:=by
 obtain⟨pb,Xx,hc2⟩:=(ZF.states.kids x hm).cases.row b y hy;have XK:=(Zi.1 hy).1;rw[Xx]at hc1;have h1:=yF p w ZF hz y.tX9;rw[hp]at h1 ⊢;exact aaW _ _ _ _ _ _ _ _ _ _ _ _ _ _ _ _ _ _ _ _ _ _ _ _ _ _ _ _ _ _ _ _ _ _ _ _ _ _ _ _ _ _ _ _ _ _ _ _ _ _ _ _ _ _ _ _ _ _ _ (a) (hl) (hc1) (b) (XK) (hc2) (h1)):P:=h
def aqq(h:P:=by
 have h1:=FR p w ZF hz x.name;rw[hp]at h1 ⊢;exact gS _ _ _ _ _ _ _ _ _ _ _ _ _ _ _ _ _ _ _ _ _ _ _ _ _ _ _ _ _ _ _ _ _ _ _ _ _ _ _ _ _ _ _ _ _ (mI _ _ _ _ _ _ _ _ _ _ _ _ _ _ _ _ _ _ _ _ _ _ _ _ _ _ _ _ _ _ _ _ _ _ _ _ _ _ _ _ _ _ _ _ _ _ _ _ _ _ _ _ _ _ _ _ (a) (hl) (hc1) (h1) (rfl))):P:=h
def aqr(h:P:=by
 obtain⟨pb,Xx,hc2⟩:=(ZF.states.kids x hm).takes.row b y hy;have XK:=(Zi.1 hy).1;rw[Xx]at hc1;have h1:=OO p w ZF hz y;rw[hp]at h1 ⊢;exact gT _ _ _ _ _ _ _ _ _ _ _ _ _ _ _ _ _ _ _ _ _ _ _ _ _ _ _ _ _ _ _ _ _ _ _ _ _ _ _ _ _ _ _ _ _ (ej _ _ _ _ _ _ _ _ _ _ _ _ _ _ _ _ _ _ _ _ _ _ _ _ _ _ _ _ _ _ _ _ _ _ _ _ _ _ _ _ _ _ _ _ _ _ _ _ _ _ _ _ _ _ _ _ (a) (hl) (hc1) (b) (XK) (hc2) (h1) (RK (fun z:Hr=>z.name.toList==y.toList) p.headers.l) (rfl))):P:=h
def aqs(h:P:=by
 have h1:=FR p w ZF hz x.tX9;have hS:=ZF.states.kids x hm;have hkb:x.keys.l.length≤1048576:=Xk Ex.wt Ex.wt_pos x.keys (by have h3:=YW Sa.sz p.states.l x hm;unfold Pr.sz Sa.sz Sl.size at *;omega);have Xw:=fun e (he:e∈x.keys.l)=>Ew p w ZF hz (-1) e (hS.keys.kids e he) (by have h3:=YW Sa.sz p.states.l x hm;have h4:=YW Ex.wt x.keys.l e he;unfold Pr.sz Sa.sz Sl.size at *;omega);rw[hp]at Xw;rw[hp]at h1 ⊢;exact gU _ _ _ _ _ _ _ _ _ _ _ _ _ _ _ _ _ _ _ _ _ _ _ _ _ _ _ _ _ _ _ _ _ _ _ _ _ _ _ _ _ _ _ _ _ (ef _ _ _ _ _ _ _ _ _ _ _ _ _ _ _ _ _ _ _ _ _ _ _ _ _ _ _ _ _ _ _ _ _ _ _ _ _ _ _ _ _ _ _ _ _ _ _ _ _ _ _ _ _ _ (x.keys.l) (YP p (-1)) _ _ (a) (hl) (hc1) (h1) (rfl) (hkb) (hS.keys.row) (Xw) (rfl))):P:=h
def aqt(h:P:=by
 obtain⟨pb,Xx,hc2⟩:=(ZF.states.kids x hm).cases.row b y hy;have XK:=(Zi.1 hy).1;rw[Xx]at hc1;have h1:=FR p w ZF hz y.tX9;rw[hp]at h1 ⊢;exact gV _ _ _ _ _ _ _ _ _ _ _ _ _ _ _ _ _ _ _ _ _ _ _ _ _ _ _ _ _ _ _ _ _ _ _ _ _ _ _ _ _ _ _ _ _ (ee _ _ _ _ _ _ _ _ _ _ _ _ _ _ _ _ _ _ _ _ _ _ _ _ _ _ _ _ _ _ _ _ _ _ _ _ _ _ _ _ _ _ _ _ _ _ _ _ _ _ _ _ _ _ _ _ _ _ _ _ _ (a) (hl) (hc1) (b) (XK) (hc2) (h1) (rfl))):P:=h
def MI(h:P:=by
 open Z renaming ahV→Gx in exact E5):P:=h
def aqu(h:P:=by
 open Z renaming agG→Aa in exact vJ):P:=h
def aqv(h:P:=by
 have e0:=fun y=>(hd.plus y).c0 _ rfl;have e1:=fun y=>(hd.plus y).cs 0 _ rfl;have e2:=fun y=>(hd.plus y).cs 1 _ rfl;have e3:=fun y=>(hd.plus y).cs 2 _ rfl;have e4:=fun y=>(hd.plus y).cs 3 _ rfl;have e5:=fun y=>(hd.plus y).cs 4 _ rfl;have e6:=fun y=>(hd.plus y).cs 5 _ rfl;have e7:=fun y=>(hd.plus y).cs 6 _ rfl;have e8:=fun y=>(hd.plus y).cs 7 _ rfl;simp only[Ex.op,Ex.lit,Ex.head,Ex.name,Ex.hi,Ex.lo,Ex.p,Ex.cap,Ex.args]at d0 d1 d2 d3 d4 d5 d6 d7 d8 e0 e1 e2 e3 e4 e5 e6 e7 e8;have q1':=Zf q1;have a6:=Zf (Y7 k n ZC Yt.out);clear q1 hZ Ti hmb hc hd ha hb hs;cases Z with
 | true =>
  have ZP:=Zf (show Ex.sames (l.drop (k+1)) (r.drop (k+1))=R by rw[←ZQ,Bool.true_and]);clear ZQ;go_wp2;refine Wz asC asC ?_;repeat (go_big_quiet_step (first|(with_reducible exact q1'.out _)))
  refine wpQuiet_nil ?_;rintro _ ⟨y1,rfl⟩;go_wp2;go_roundw
  case rel=>exact⟨k+1,ZC,congrArg (Zz .i64) a6.out,ZP,y1,rfl⟩
  case measure=>exact Y9 k n ZC a6.out
 | false =>
  have ZP:=Zf (show false=R by rw[←ZQ,Bool.false_and]);clear ZQ;go_wp2;refine Wz asC asC ?_;repeat (go_big_quiet_step (first|(with_reducible exact q1'.out _)))
  refine wpQuiet_nil ?_;rintro _ ⟨y1,rfl⟩;go_wp2;go_ret;exact⟨congrArg (fun z=>Zd (Zy z)) ZP.out,aub⟩):P:=h
def aqw(h:P:=by
 simp only[Ex.op,Ex.lit,Ex.head,Ex.name,Ex.hi,Ex.lo,Ex.p,Ex.cap,Ex.args]at d0 d1 d2 d3 d4 d5 d6 d7 d8;have q1':=Zf q1;clear q1 hZ hc ha hs ZV;cases Z with
 | true =>
  have ZP:=Zf (show (l.drop (k+1)).all may=R by rw[←ZQ,Bool.true_and]);clear ZQ;go_wp2_with (go_at_call 174;refine (q1'.out _).mono ?_;rintro e w' ⟨rfl,x,rfl⟩);go_roundw
  case rel=>exact⟨k+1,ZC,congrArg (Zz .i64) a6.out,ZP,x,rfl⟩
  case measure=>exact Y9 k n ZC a6.out
 | false =>
  have ZP:=Zf (show false=R by rw[←ZQ,Bool.false_and]);clear ZQ;go_wp2_with (go_at_call 174;refine (q1'.out _).mono ?_;rintro e w' ⟨rfl,x,rfl⟩);go_ret;exact⟨congrArg (fun z=>Zd (Zy z)) ZP.out,x,rfl⟩):P:=h
def aqx(h:P:=by
 simp only[Ex.op,Ex.lit,Ex.head,Ex.name,Ex.hi,Ex.lo,Ex.p,Ex.cap,Ex.args]at d0 d1 d2 d3 d4 d5 d6 d7 d8;have q3':=Zf q3;have a6:=Zf (Y7 k n ZC Yt.out);clear q3 hZ hc ha hs;cases Z with
 | true =>
  have ZP:=Zf (show (args.drop (k+1)).all Ex.ok=R by rw[←ZQ,Bool.true_and]);clear ZQ;go_wp2_with (go_at_call 205;refine (q3'.out _).mono ?_;rintro e w' ⟨rfl,x,rfl⟩);go_roundw
  case rel=>exact⟨k+1,ZC,congrArg (Zz .i64) a6.out,ZP,x,rfl⟩
  case measure=>exact Y9 k n ZC a6.out
 | false =>
  have ZP:=Zf (show false=R by rw[←ZQ,Bool.false_and]);clear ZQ;go_wp2_with (go_at_call 205;refine (q3'.out _).mono ?_;rintro e w' ⟨rfl,x,rfl⟩);go_ret;exact⟨congrArg (fun z=>Zd (Zy z)) ZP.out,asO⟩):P:=h
def aqy(h:P:=by
 simp only[Ex.op,Ex.lit,Ex.head,Ex.name,Ex.hi,Ex.lo,Ex.p,Ex.cap,Ex.args]at d0 d1 d2 d3 d4 d5 d6 d7 d8;have q3':=Zf q3;have a6:=Zf (Y7 k 2 ZC Yt.out);clear q3 hZ hc ha hs;cases Z with
 | true =>
  have ZP:=Zf (show (args.drop (k+1)).all Ex.ok=R by rw[←ZQ,Bool.true_and]);clear ZQ;go_wp2_with (go_at_call 205;refine (q3'.out _).mono ?_;rintro e w' ⟨rfl,x,rfl⟩);go_roundw
  case rel=>exact⟨k+1,ZC,rfl,ZP,x,rfl⟩
  case measure=>exact Nat.sub_lt_sub_left ZC (Nat.lt_succ_self k)
 | false =>
  have ZP:=Zf (show false=R by rw[←ZQ,Bool.false_and]);clear ZQ;go_wp2_with (go_at_call 205;refine (q3'.out _).mono ?_;rintro e w' ⟨rfl,x,rfl⟩);go_ret;exact⟨congrArg (fun z=>Zd (Zy z)) ZP.out,asO⟩):P:=h
def aqz(h:P:=by
 open Z renaming agH→Aa in exact vJ):P:=h
def pM(h:P:=by
 open Z renaming agR→K7 in exact Iy):P:=h
def pN(h:P:=by
 rw[hE]at Pj;have a6:=Zf (EI k n ZC Yt.out);have cells:∀j v,it.cs[j]?=some v→∀y,(plus X y).cell? ((pa.add (k*17)).add j)=some v:=fun j v hj y=>ZS (hc j v hj) y;have VK:∃c0 c1 c2 c3 c4 c5 c6 c7 c8 c9 c10 c11 c12 c13 c14 c15 c16,it.cs=[c0,c1,c2,c3,c4,c5,c6,c7,c8,c9,c10,c11,c12,c13,c14,c15,c16]:=by
  exact amA
 obtain⟨c0,c1,c2,c3,c4,c5,c6,c7,c8,c9,c10,c11,c12,c13,c14,c15,c16,VK⟩:=VK;rw[VK]at cells q1;have Yv:=fun y=>(VK▸hc.plus y:Yg (plus X y) (pa.add (k*17)) [c0,c1,c2,c3,c4,c5,c6,c7,c8,c9,c10,c11,c12,c13,c14,c15,c16]);have d0:=fun y=>(Yv y).c0 _ rfl;have d1:=fun y=>(Yv y).cs 0 _ rfl;have d2:=fun y=>(Yv y).cs 1 _ rfl;have d3:=fun y=>(Yv y).cs 2 _ rfl;have d4:=fun y=>(Yv y).cs 3 _ rfl;have d5:=fun y=>(Yv y).cs 4 _ rfl;have d6:=fun y=>(Yv y).cs 5 _ rfl;have d7:=fun y=>(Yv y).cs 6 _ rfl;have d8:=fun y=>(Yv y).cs 7 _ rfl;have d9:=fun y=>(Yv y).cs 8 _ rfl;have d10:=fun y=>(Yv y).cs 9 _ rfl;have d11:=fun y=>(Yv y).cs 10 _ rfl;have d12:=fun y=>(Yv y).cs 11 _ rfl;have d13:=fun y=>(Yv y).cs 12 _ rfl;have d14:=fun y=>(Yv y).cs 13 _ rfl;have d15:=fun y=>(Yv y).cs 14 _ rfl;have d16:=fun y=>(Yv y).cs 15 _ rfl;have e0:=XW ZE cp0;have e1:=XW ZE cp1;have e2:=XW ZE cp2;have e3:=XW ZE cp3;have e4:=XW ZE cp4;have e5:=XW ZE cp5;have e6:=XW ZE cp6;rw[Yw];exact zC):P:=h
def aqA(h:P:=by
 clear cells Yv hc VK hag VS Qr ZV Tx hs hE ZE hzw cp0 cp1 cp2 cp3 cp4 cp5 cp6;by_cases WH:E=0
 ·have ZP:=Zf (Ot.out WH)
  subst WH;clear Pj Ot;go_upto_region 7 with (fail)
  refine Wz asC asC ?_;exact ph
 ·have ZP:=Zf (Pj.out WH)
  have YH:(E==0)=false:=by simpa using WH
  clear Pj Ot WH;go_upto_region 7 with (fail)
  refine Wz asC asC ?_;exact pj):P:=h
def aqB(h:P:=by
 clear cells Yv hc VK VS Qr ZV Tx hs hE ZE hzw cp0 cp1 cp2 cp3 cp4 cp5 cp6;by_cases WH:E=0
 ·have ZP:=Zf (Ot.out WH)
  subst WH;clear Pj Ot;go_upto_region 8 with (fail)
  open Z renaming ph→GJ in exact Dj
 ·have ZP:=Zf (Pj.out WH)
  have YH:(E !=0)=true:=by simpa using WH
  clear Pj Ot WH;go_upto_region 8 with (fail)
  open Z renaming pj→GJ in exact Dj):P:=h
def D5(h:P:=by
 open Z renaming alg→A9 in exact tG):P:=h
def aqC(h:P:=by
 have Oh:(b:Int)≤(lc:Int):=by have:=hlc'.out;omega
 go_wp2;clear C0 C1 C2 C3 C4 C5 C6 e0 e1 e2 e3 e4 e5 e6 e7 e8 e9 Sg hbn Oh;go_loopw [7,30] (fun _ iv wr=>∃i:Nat,i≤b∧iv=.int .i64 (i:Int)∧(∃z,wr=plus V z)∧∀j y,j<i→l[j]?=some y→y.kind≠2) (fun _ iv _=>b-(intOf iv).toNat)
 case atStart=>exact⟨0,Zw _,rfl,⟨_,rfl⟩,fun j y h=>absurd h (Nat.not_lt_zero j)⟩
 case round =>
  obtain⟨i,hi,rfl,⟨z,hzr⟩,hJ⟩:=hrel;by_cases ZC:i<b
  ·obtain⟨x,hx⟩:=Yq l i (by rw[TA.out];omega)
   obtain⟨pb,Xx,YZ⟩:=XV.out i x hx;obtain rfl:=Option.some.inj Xx;have Yx:Yg wr (pa.add (i*10)) x.cells:=by rw[hzr];exact YZ.plus z
   open Z renaming ag6→Gv in exact EZ
  ·obtain rfl:i=b:=by omega
   have RJ:=Zf hzr;have Xs:((l.take i).all fun y=>decide (y.kind≠2))=true:=by
    rw[List.all_eq_true];intro y hy;obtain⟨j,hj⟩:=List.mem_iff_getElem?.1 hy;rw[List.getElem?_take]at hj;split at hj
    ·next hji=>simpa using hJ j y hji hj
    ·cases hj
   have hall':=Zf Xs;clear hzr Xs hJ;go_wp2;go_end0;exact⟨by rw[←hRR'.out,if_pos hall'.out];rfl,⟨z,RJ.out⟩⟩):P:=h
def aqD(h:P:=by
 go_wp2;refine bodyPost_ret (results_none rfl _ _ _) rfl ?_;exact⟨rfl,⟨_,rfl⟩⟩):P:=h
def aqE(h:P:=by
 go_wp2;exact⟨rfl,rfl,⟨_,rfl⟩⟩):P:=h
def PT(h:P:=by
 go_enter func181,ntmps181;go_upto_region 1 with (fail)
 obtain⟨Ug,hUg,bUg,nUg,kg,zg⟩:=WS W _ 30;rw[←hUg];obtain⟨eg,gg⟩:=Yy bUg;have g0:=kg 0 _ rfl;have g1:=kg 1 _ rfl;have g2:=kg 2 _ rfl;have g3:=kg 3 _ rfl;exact Pq):P:=h
def aqF(h:P:=by
 open Z renaming am9→Pm in exact PO):P:=h
def aqG(h:P:=by
 open Z renaming ana→Pm in exact PO):P:=h
def aqH(h:P:=by
 open Z renaming anb→Pm in exact PO):P:=h
def aqI(h:P:=by
 open Z renaming anc→Pm in exact PO):P:=h
def aqJ(h:P:=by
 open Z renaming ane→Pm in exact PO):P:=h
def aqK(h:P:=by
 open Z renaming anf→Pm in exact PO):P:=h
def aqL(h:P:=by
 open Z renaming ang→Pm in exact PO):P:=h
def aqM(h:P:=by
 open Z renaming anh→Pm in exact PO):P:=h
def Q5(h:P:=by
 open Z renaming af4→NP in exact Mu):P:=h
def aqN(h:P:=by
 have q0c:=Zf (ZK hz h0.out);have q1c:=Zf (ZK hz h1.out);have ZN:=Zf hz;clear hW hz cb0;refine Wz asC asC ?_;repeat (go_big_quiet_step (first|(with_reducible exact q0c.out _)|(with_reducible exact q1c.out _)))
 exact pH):P:=h
def aqO(h:P:=by
 open Z renaming adC→Lc in exact LS):P:=h
def aqP(h:P:=by
 have ZN:=Zf hz;clear hW hz cb0;refine Wz asC asC ?_;repeat (go_big_quiet_step (fail))
 exact pH):P:=h
def aqQ(h:P:=by
 have c1_0:=cb1 0 _ rfl;have c1_1:=cb1 1 _ rfl;have c1_2:=cb1 2 _ rfl;have q0c:=Zf (ZK hz h0.out);open Z renaming acK→Gn in exact EM):P:=h
def aqR(h:P:=by
 have q0c:=Zf (ZK hz h0.out);open Z renaming acL→Gn in exact EM):P:=h
def aqS(h:P:=by
 have q0c:=Zf (ZK hz h0.out);have q1c:=Zf (ZK hz h1.out);open Z renaming acM→Gn in exact EM):P:=h
def aqT(h:P:=by
 open Z renaming afQ→Lh in exact L0):P:=h
def aqU(h:P:=by
 have c0_9:=cb0 9 _ rfl;have c0_10:=cb0 10 _ rfl;have c0_11:=cb0 11 _ rfl;have c0_12:=cb0 12 _ rfl;have c0_13:=cb0 13 _ rfl;have q0c:=Zf (ZK hz h0.out);exact Qv):P:=h
def Km(h:P:=by
 open Z renaming agS→K7 in exact Iy):P:=h
def aqV(h:P:=by
 have d7:=fun y=>(hc.plus y).cs 6 _ asI;have d8:=fun y=>(hc.plus y).cs 7 _ asI;exact Na):P:=h
def aqW(h:P:=by
 have d7:=fun y=>(hc.plus y).cs 6 _ asI;have d8:=fun y=>(hc.plus y).cs 7 _ asI;have d9:=fun y=>(hc.plus y).cs 8 _ asI;exact Na):P:=h
def aqX(h:P:=by
 have d7:=fun y=>(hc.plus y).cs 6 _ asI;have d8:=fun y=>(hc.plus y).cs 7 _ asI;have d9:=fun y=>(hc.plus y).cs 8 _ asI;have d10:=fun y=>(hc.plus y).cs 9 _ asI;have d11:=fun y=>(hc.plus y).cs 10 _ asI;have d12:=fun y=>(hc.plus y).cs 11 _ asI;have d13:=fun y=>(hc.plus y).cs 12 _ asI;exact Na):P:=h
def aqY(h:P:=by
 have d7:=fun y=>(hc.plus y).cs 6 _ asI;have d8:=fun y=>(hc.plus y).cs 7 _ asI;exact zA):P:=h
def pT(h:P:=by
 open Z renaming aeE→Gs in exact ES):P:=h
def aqZ(h:P:=by
 by_cases VV:R1=0
 case neg =>
  exact sR
 case pos =>
  subst VV;cases tt
  case true =>
   have hF:=Zf (show (9:Int)=R by have:=ZR.out;simpa using this);exact Hd
  case false =>
   cases tf
   case true =>
    obtain⟨zz,hzz⟩:=ZG.out;have q3:=Zf (ZK hzz (kF'.out rfl rfl));clear hzz kF';cases F
    case true =>
     have hF:=Zf (show (0:Int)=R by have:=ZR.out;simpa using this);exact sS
    case false =>
     have hF:=Zf (show (5:Int)=R by have:=ZR.out;simpa using this);exact sS
   case false =>
    by_cases hk:tw=k
    case pos =>
     subst hk;have hF:=Zf (show (0:Int)=R by have:=ZR.out;simpa using this);exact Hd
    case neg =>
     have b2:(tw !=k)=true:=by simpa using hk
     have hF:=Zf (show (10:Int)=R by have:=ZR.out;simpa [hk]using this);exact Hd):P:=h
def aq0(h:P:=by
 by_cases VV:R1=0
 case neg =>
  exact sR
 case pos =>
  subst VV;obtain⟨zz,hzz⟩:=ZG.out;have q3:=Zf (ZK hzz kB'.out);clear hzz kB';have hF:=Zf (show (B:Int)=R by have:=ZR.out;simpa using this);clear ZR;go_wp2_with (first|(go_at_call 116;with_reducible refine (q3.out _).mono ?_;rintro r w' ⟨rfl,x,rfl⟩));exact DD):P:=h
def D6(h:P:=by
 go_enter func140,ntmps140;go_wp2_with fail;obtain⟨W,yy,hW,⟨z,hz⟩,ca,cb,cc⟩:=KB V _ _ _ 117 47 221;open Z renaming aiL→GD in exact E9):P:=h
def aq1(h:P:=by
 have q0:=Zf (ZK hz h0.out);have q1:=Zf (ZK hz h1.out);have ZN:=Zf hz;clear hW hz ca cb cc h0 h1;refine (q0.out _).mono ?_;rintro r w' ⟨rfl,x1,rfl⟩;go_wp2_with (first|(go_at_call 196;with_reducible refine (q1.out _).mono ?_;rintro r w' ⟨rfl,x,rfl⟩));exact XO):P:=h
def aq2(h:P:=by
 have q0:=Zf (ZK hz h0.out);have q2:=Zf (ZK hz h2.out);have ZN:=Zf hz;clear hW hz ca cb cc h0 h2;refine (q0.out _).mono ?_;rintro r w' ⟨rfl,x1,rfl⟩;go_wp2_with (first|(go_at_call 124;with_reducible refine (q2.out _).mono ?_;rintro r w' ⟨rfl,x,rfl⟩));exact XO):P:=h
def Hv(h:P:=by
 obtain⟨X,Y0,hX,⟨zX,ZE⟩,ca⟩:=YO V _ 49;rw[hX];open Z renaming afM→K4 in exact Iu):P:=h
def aq3(h:P:=by
 replace C0:∀y,(plus X y).cell? ⟨cb,0,none⟩=some (.slice p0 n0 c0):=fun y=>by rw[ZE,ZD];exact ZS C0 _
 replace C1:∀y,(plus X y).cell? ⟨cb,1,none⟩=some (.slice p1 n1 c1):=fun y=>by rw[ZE,ZD];exact ZS C1 _
 replace C2:∀y,(plus X y).cell? ⟨cb,2,none⟩=some (.slice p2 n2 c2):=fun y=>atS;replace C3:∀y,(plus X y).cell? ⟨cb,3,none⟩=some (.slice p3 n3 c3):=fun y=>by rw[ZE,ZD];exact ZS C3 _
 replace C4:∀y,(plus X y).cell? ⟨cb,4,none⟩=some (.slice p4 n4 c4):=fun y=>atZ;replace C5:∀y,(plus X y).cell? ⟨cb,5,none⟩=some (.slice p5 n5 c5):=fun y=>by rw[ZE,ZD];exact ZS C5 _
 replace C6:∀y,(plus X y).cell? ⟨cb,6,none⟩=some (.slice p6 n6 c6):=fun y=>by rw[ZE,ZD];exact ZS C6 _
 have hz:=Zf ZE;clear hX ca ZE;refine Wj 9 asC asC ?_;exact Ha):P:=h
def aq4(h:P:=by
 replace C2:∀y,(plus X y).cell? ⟨cb,2,none⟩=some (.slice (some pa) n2 c2):=fun y=>atS;replace S4:∀y,(plus X y).cell? ⟨(pa.add (a*5)).block,(pa.add (a*5)).off+4,none⟩=some (.slice (some pc) cn cc):=fun y=>by rw[ZE,ZD];exact ZS S4 _
 replace Ym:∀y,(plus X y).cell? (pc.add (b*3))=some (.bool d):=fun y=>by rw[ZE,ZD];exact ZS Ym _
 replace ZL:∀y,(plus X y).cell? ⟨(pc.add (b*3)).block,(pc.add (b*3)).off+1,none⟩=some (.slice sp sn sc):=fun y=>by rw[ZE,ZD];exact ZS ZL _
 replace ZT:∀y,(plus X y).cell? ⟨(pc.add (b*3)).block,(pc.add (b*3)).off+2,none⟩=some (.string cto):=fun y=>by rw[ZE,ZD];exact ZS ZT _
 have hz:=Zf ZE;clear hX ca ZE;have hna:¬((a:Int)<0):=asB;have hla:(a:Int)<(n2:Int):=asB;have W7:¬((b:Int)<0):=asB;have hlb:(b:Int)<(cn:Int):=asB;refine Wj 15 asC asC ?_;exact Ha):P:=h
def aq5(h:P:=by
 replace C4:∀y,(plus X y).cell? ⟨cb,4,none⟩=some (.slice (some pa) n4 c4):=fun y=>atZ;replace T1:∀y,(plus X y).cell? ⟨(pa.add (a*5)).block,(pa.add (a*5)).off+1,none⟩=some (.slice kp kn kcap):=fun y=>by rw[ZE,ZD];exact ZS T1 _
 have hz:=Zf ZE;clear hX ca ZE;have hna:¬((a:Int)<0):=asB;have hla:(a:Int)<(n4:Int):=asB;refine Wj 13 asC asC ?_;exact Ha):P:=h
def aq6(h:P:=by
 replace C4:∀y,(plus X y).cell? ⟨cb,4,none⟩=some (.slice (some pa) n4 c4):=fun y=>atZ;replace T3:∀y,(plus X y).cell? ⟨(pa.add (a*5)).block,(pa.add (a*5)).off+3,none⟩=some (.string dn):=fun y=>by rw[ZE,ZD];exact ZS T3 _
 replace T4:∀y,(plus X y).cell? ⟨(pa.add (a*5)).block,(pa.add (a*5)).off+4,none⟩=some (.slice gp gn gc):=fun y=>by rw[ZE,ZD];exact ZS T4 _
 have hz:=Zf ZE;clear hX ca ZE;have hna:¬((a:Int)<0):=asB;have hla:(a:Int)<(n4:Int):=asB;refine Wj 11 asC asC ?_;exact Ha):P:=h
def T2(h:P:=by
 have hmf:∀(fn:Fn) (first cap:Array Value) (w:World),(Instr.makeFunc fn first cap).run Zx w=.ok (.func fn first cap) w:=fun _ _ _ _=>rfl;exact TU):P:=h
def aq7(h:P:=by
 go_enter func196,ntmps196;go_wp2_with fail;obtain⟨W,hW,⟨z,hz⟩,hc⟩:=me V _ _ _ _;rw[hW];have ZN:=Zf hz;refine (Sh.out W _ z hz hc).mono ?_;clear hW hz hc;exact sJ):P:=h
def aq8(h:P:=by
 clear hL hf;cases is
 case false =>
  exact Ce
 case true =>
  exact Ce):P:=h
def aq9(h:P:=by
 clear hL hf;cases is
 case false =>
  clear h0 hE;exact Ce
 case true =>
  cases s0
  case false =>
   open Z renaming Cf→BJ in exact wF
  case true =>
   open Z renaming acE→BJ in exact wF):P:=h
def ara(h:P:=by
 go_enter func124,ntmps124;go_wp2_with fail;obtain⟨W,hW,⟨z,hz⟩,hf,hc⟩:=mg V _ _ _ _ _ _;rw[hW];have ZN:=Zf hz;refine (Sh.out W _ _ z hz (hf _ rfl) hc).mono ?_;clear hW hz hc hf;exact sJ):P:=h
def arb(h:P:=by
 obtain⟨R,hR⟩:=ZB (((s0)&&(s1)));rw[hR];cases s0
 case false =>
  open Z renaming ac3→Xy in exact Xz
 case true =>
  cases s1
  case false =>
   open Z renaming oz→Xy in exact Xz
  case true =>
   open Z renaming oz→RP in exact Qa):P:=h
def arc(h:P:=by
 obtain⟨R,hR⟩:=ZB (((s0)&&(s1)));rw[hR];cases s0
 case false =>
  open Z renaming ac4→Xy in exact Xz
 case true =>
  cases s1
  case false =>
   open Z renaming oA→Xy in exact Xz
  case true =>
   open Z renaming oA→RP in exact Qa):P:=h
def ard(h:P:=by
 obtain⟨R,hR⟩:=ZB (((s0)&&((s1)&&(s2))));rw[hR];cases s0
 case false =>
  open Z renaming ac6→Xy in exact Xz
 case true =>
  cases s1
  case false =>
   open Z renaming ac7→Xy in exact Xz
  case true =>
   cases s2
   case false =>
    open Z renaming wj→Xy in exact Xz
   case true =>
    open Z renaming wj→RP in exact Qa):P:=h
def are(h:P:=by
 obtain⟨R,hR⟩:=ZB (((s0)&&((s1)&&(s2))));rw[hR];cases s0
 case false =>
  open Z renaming ac8→Xy in exact Xz
 case true =>
  cases s1
  case false =>
   open Z renaming ac9→Xy in exact Xz
  case true =>
   cases s2
   case false =>
    open Z renaming wk→Xy in exact Xz
   case true =>
    open Z renaming wk→RP in exact Qa):P:=h
def arf(h:P:=by
 obtain⟨R,hR⟩:=ZB (((s0)&&((s1)&&((s2)&&((s3)&&(s4))))));rw[hR];cases s0
 case false =>
  open Z renaming ada→Xy in exact Xz
 case true =>
  cases s1
  case false =>
   open Z renaming adb→Xy in exact Xz
  case true =>
   cases s2
   case false =>
    open Z renaming adc→Xy in exact Xz
   case true =>
    cases s3
    case false =>
     open Z renaming ade→Xy in exact Xz
    case true =>
     cases s4
     case false =>
      open Z renaming wl→Xy in exact Xz
     case true =>
      open Z renaming wl→RP in exact Qa):P:=h
def arg(h:P:=by
 have ht2:a2.toList=[]:=atd;cases s0
 case false =>
  open Z renaming Cf→BQ in exact wV
 case true =>
  open Z renaming adR→BQ in exact wV):P:=h
def arh(h:P:=by
 have hE:=Zf hE;go_enter func137,ntmps137;go_wp2_with fail;obtain⟨W,yy,hW,⟨z,hz⟩,ca⟩:=YO V _ 3;rw[hW];have ca0:=ca 0 _ rfl;have q1:=Zf (hE.out W z _ hz (by have:=ca0 ⟨#[],W.drawn⟩;rwa [Yk]at this)).pure;have ZN:=Zf hz;clear hW hz ca hE;exact wL):P:=h
def ari(h:P:=by
 have hE:=Zf hE;go_enter func63,ntmps63;go_wp2_with fail;obtain⟨W,yy,hW,⟨z,hz⟩,ca,cb⟩:=Xu V _ _ 117 _;rw[hW];have cb0:=cb 0 _ rfl;have q1:=Zf (hE.out W z _ _ hz (fun j v hj=>by have:=ca j _ hj ⟨#[],W.drawn⟩;rwa [Yk]at this) (by have:=cb0 ⟨#[],W.drawn⟩;rwa [Yk]at this)).pure;have ZN:=Zf hz;clear hW hz ca cb hE;exact wL):P:=h
def arj(h:P:=by
 obtain⟨R,hR⟩:=ZB (((s0)&&((s1)&&((s2)&&((s3)&&((s4)&&((s5)&&(s6))))))));rw[hR];cases s0
 case false =>
  have hF:=Zf hR;clear hR;have h0:=Zf h0;clear h1 h2 h3 h4 h5 h6;go_enter func29,ntmps29;go_wp2_with fail;open Z renaming anM→OD in exact O7
 cases s1
 case false =>
  have hF:=Zf hR;clear hR;have h0:=Zf h0;have h1:=Zf h1;clear h2 h3 h4 h5 h6;go_enter func29,ntmps29;go_wp2_with fail;open Z renaming anN→OD in exact O7
 cases s2
 case false =>
  have hF:=Zf hR;clear hR;have h0:=Zf h0;have h1:=Zf h1;have h2:=Zf h2;clear h3 h4 h5 h6;go_enter func29,ntmps29;go_wp2_with fail;open Z renaming anO→OD in exact O7
 cases s3
 case false =>
  have hF:=Zf hR;clear hR;have h0:=Zf h0;have h1:=Zf h1;have h2:=Zf h2;have h3:=Zf h3;clear h4 h5 h6;go_enter func29,ntmps29;go_wp2_with fail;open Z renaming anP→OD in exact O7
 cases s4
 case false =>
  have hF:=Zf hR;open Z renaming akJ→Lr in exact Kb
 cases s5
 case false =>
  have hF:=Zf hR;open Z renaming akK→Lr in exact Kb
 cases s6
 case false =>
  exact wM
 exact wM):P:=h
def ark(h:P:=by
 have YY:=Zf hC;have WJ:=Zf hG;clear hC hG;go_enter_defers func18,ntmps18;go_wp2_with fail;rw[WJ.out,Oper.upon_enter];refine YY.out.mono ?_;rintro e W ⟨rfl,hT,hc,hf⟩;clear YY WJ;have WB:=Zf hT;clear hT;obtain⟨n,hn⟩:=ZB w.heap.size;rw[hn]at hc hf ⊢;have ZO:=Zf hn;clear hn;by_cases z:r=0
 ·subst z
  simp only[Yl,if_pos];go_wp2;refine leaves_cons (f:=32) (args:=#[.pointer (some ⟨n,0,none⟩)]) asD (by simp[go_sem]) ?_;refine (nX n _).mono ?_;rintro e u' w'' ⟨rfl,rfl,rfl⟩;have p0:(W.setCell ⟨n,0,none⟩ (.int .i64 0)).cell? ⟨n,0,none⟩=some (.int .i64 0):=World.cell?_setCell_same _ _ _ hc;exact vH
 ·rw[Yl,if_neg z]
  go_wp2;refine leaves_cons (f:=32) (args:=#[.pointer (some ⟨n,0,none⟩)]) asD (by simp[go_sem]) ?_;refine (nW n r [] W _ hc hf).mono ?_;rintro e u' w'' ⟨rfl,rfl,rfl⟩;have p0:(W.setCell ⟨n,0,none⟩ (.int .i64 r)).cell? ⟨n,0,none⟩=some (.int .i64 r):=World.cell?_setCell_same _ _ _ hc;exact vH):P:=h
def arl(h:P:=by
 obtain⟨R,hR⟩:=ZB (((s0)&&(s1)));rw[hR];cases s0
 case false =>
  open Z renaming ac5→Xy in exact Xz
 case true =>
  cases s1
  case false =>
   open Z renaming xX→Xy in exact Xz
  case true =>
   open Z renaming xX→RP in exact Qa):P:=h
def MK(h:P:=by
 intro y0;have hA:=hA.plus (fun _ a=>a) y0;obtain⟨V,hV⟩:=ZB (plus w y0);rw[hV]at hA ⊢;clear hV;have YV:=Zf hA;have Yt:=Zf hl;clear hA hl;obtain⟨ap,ac,al⟩:=A;simp only[Sl.v];obtain⟨n,hn⟩:=ZB al.length;rw[hn];have ZO:=Zf hn;clear hn;exact N7):P:=h
def arm(h:P:=by
 go_enter func87,ntmps87;go_upto_region 1 with (fail)
 obtain⟨W,yy,hW,⟨z,hz⟩,ca,cb⟩:=Xu V _ _ 30 9;rw[hW];have b0:=ca 0 _ rfl;have d0:=cb 0 _ rfl ⟨#[],W.drawn⟩;rw[Yk]at d0;have Wq:=(lQ Hr.cells J8 (fun x=>x.name.toList==nm.toList) 152 #[] #[.pointer (some ⟨V.heap.size+1,0,none⟩)] K W ⟨ap,ac,al⟩ atz Yt.out (enters_of func152 asC rfl) (fun x _=>ik (V.heap.size+1) nm _ _ _ _ W d0)).pure;simp only[Sl.v]at Wq;rw[ZO.out]at Wq;have hc:=Zf Wq;have ZG:=Zf hz;clear hW hz ca cb d0 Wq YV Yt ZO;go_wp2_with (first|(go_at_call 151;with_reducible refine (hc.out _).mono ?_;rintro r w' ⟨rfl,x,rfl⟩));exact SY):P:=h
def arn(h:P:=by
 go_enter func90,ntmps90;go_upto_region 1 with (fail)
 obtain⟨W,yy,hW,⟨z,hz⟩,ca,cb⟩:=Xu V _ _ 30 9;rw[hW];have b3:=ca 3 _ rfl;have d0:=cb 0 _ rfl ⟨#[],W.drawn⟩;rw[Yk]at d0;have Wq:=(lN Ac.cells J5 (fun x=>x.name.toList==nm.toList) 154 #[] #[.pointer (some ⟨V.heap.size+1,0,none⟩)] K W ⟨ap,ac,al⟩ atz Yt.out (enters_of func154 asC rfl) (fun x _=>ii (V.heap.size+1) nm _ _ _ _ _ _ _ W d0)).pure;simp only[Sl.v]at Wq;rw[ZO.out]at Wq;have hc:=Zf Wq;have ZG:=Zf hz;clear hW hz ca cb d0 Wq YV Yt ZO;go_wp2_with (first|(go_at_call 153;with_reducible refine (hc.out _).mono ?_;rintro r w' ⟨rfl,x,rfl⟩));exact SY):P:=h
def aro(h:P:=by
 go_enter func93,ntmps93;go_upto_region 1 with (fail)
 obtain⟨W,yy,hW,⟨z,hz⟩,ca,cb⟩:=Xu V _ _ 30 9;rw[hW];have b4:=ca 4 _ rfl;have d0:=cb 0 _ rfl ⟨#[],W.drawn⟩;rw[Yk]at d0;have Wq:=(lS Ta.cells Ia (fun x=>x.name.toList==nm.toList) 157 #[] #[.pointer (some ⟨V.heap.size+1,0,none⟩)] K W ⟨ap,ac,al⟩ atz Yt.out (enters_of func157 asC rfl) (fun x _=>iq (V.heap.size+1) nm _ _ _ _ _ _ _ _ _ _ _ W d0)).pure;simp only[Sl.v]at Wq;rw[ZO.out]at Wq;have hc:=Zf Wq;have ZG:=Zf hz;clear hW hz ca cb d0 Wq YV Yt ZO;go_wp2_with (first|(go_at_call 156;with_reducible refine (hc.out _).mono ?_;rintro r w' ⟨rfl,x,rfl⟩));exact SY):P:=h
def arp(h:P:=by
 go_enter func148,ntmps148;go_upto_region 1 with (fail)
 obtain⟨W,yy,hW,⟨z,hz⟩,cb⟩:=YO V _ 9;rw[hW];have d0:=cb 0 _ rfl ⟨#[],W.drawn⟩;rw[Yk]at d0;have Wq:=(lP Fd.cells J7 (fun x=>x.name.toList==nm.toList) 199 #[] #[.pointer (some ⟨V.heap.size,0,none⟩)] K W ⟨ap,ac,al⟩ atz Yt.out (enters_of func199 asC rfl) (fun x _=>ij V.heap.size nm _ _ W d0)).pure;simp only[Sl.v]at Wq;rw[ZO.out]at Wq;have hc:=Zf Wq;have ZG:=Zf hz;clear hW hz cb d0 Wq YV Yt ZO;go_wp2_with (first|(go_at_call 198;with_reducible refine (hc.out _).mono ?_;rintro r w' ⟨rfl,x,rfl⟩));exact SY):P:=h
def arq(h:P:=by
 go_enter func162,ntmps162;go_upto_region 1 with (fail)
 obtain⟨W,yy,hW,⟨z,hz⟩,cb⟩:=YO V _ 9;rw[hW];have d0:=cb 0 _ rfl ⟨#[],W.drawn⟩;rw[Yk]at d0;have Wq:=(lT (fun x=>x.toList==nm.toList) 201 #[] #[.pointer (some ⟨V.heap.size,0,none⟩)] K W ⟨ap,ac,al⟩ atz Yt.out (enters_of func201 asC rfl) (fun x _=>iu V.heap.size nm _ W d0)).pure;simp only[Sl.v]at Wq;rw[ZO.out]at Wq;have hc:=Zf Wq;have ZG:=Zf hz;clear hW hz cb d0 Wq YV Yt ZO;go_wp2_with (first|(go_at_call 200;with_reducible refine (hc.out _).mono ?_;rintro r w' ⟨rfl,x,rfl⟩));exact SY):P:=h
def arr(h:P:=by
 obtain⟨R,hR⟩:=ZB (W9 al nm);rw[hR];have ZR:=Zf hR;clear hR;go_enter func85,ntmps85;go_upto_region 1 with (fail)
 obtain⟨W,yy,hW,⟨z,hz⟩,ca,cb⟩:=Xu V _ _ 30 9;rw[hW];have b2:=ca 2 _ rfl;have e0:=cb 0 _ rfl;have d0:=cb 0 _ rfl ⟨#[],W.drawn⟩;rw[Yk]at d0;have Wq:=(lR Sa.cells J9 (fun x=>x.name.toList==nm.toList) 150 #[] #[.pointer (some ⟨V.heap.size+1,0,none⟩)] K W ⟨ap,ac,al⟩ atz Yt.out (enters_of func150 asC rfl) (fun x _=>il (V.heap.size+1) nm _ _ _ _ _ _ _ _ _ _ _ W d0)).pure;simp only[Sl.v]at Wq;rw[ZO.out]at Wq;have hI:=Zf (show YL (fun x=>x.name.toList==nm.toList) al 0=LI al nm from rfl);rw[hI.out]at Wq;have hc:=Zf Wq;have ZG:=Zf hz;clear hW hz ca cb d0 Wq YV Yt ZO hI;have hR:=ZR.out;unfold W9 at hR;by_cases q1:(nm.toList==[97,99,99,101,112,116])=true
 ·rw[if_pos q1]at hR
  exact rr
 have q1:(nm.toList==[97,99,99,101,112,116])=false:=asJ;rw[if_neg (by rw[q1];decide)]at hR;by_cases q2:(nm.toList==[114,101,106,101,99,116])=true
 ·rw[if_pos q2]at hR
  exact rr
 have q2:(nm.toList==[114,101,106,101,99,116])=false:=asL;rw[if_neg (by rw[q2];decide)]at hR;obtain⟨I,hI⟩:=ZB (LI al nm);rw[hI]at hR hc;clear hI ZR;by_cases q3:I=-1
 ·rw[q3]at hR hc
  have Wd:=Zf hR;clear hR q3;exact PM
 ·rw[if_neg asP]at hR
  have Wd:=Zf hR;have q4:(I==-1)=false:=asP;clear hR;exact PM):P:=h
def pX(h:P:=by
 open Z renaming akR→AZ in exact tk):P:=h
def ars(h:P:=by
 clear qko;rw[ZD];obtain⟨Y5,hY5⟩:=ZB ((⟨ZH.blocks y1++ZH.blocks x2,ZH.draws x2⟩:ZH):ZH);exact vp):P:=h
def PU(h:P:=by
 intro y0;have h1:=h1.up y0;have h2:=h2.up y0;have hc:=hc.plus y0;obtain⟨V,hV⟩:=ZB (plus w y0);rw[hV]at h1 h2 hc ⊢;clear hV;have YA:=Zf h1;have Xg:=Zf h2;have Yo:=Zf hc;clear h1 h2 hc;exact Ps):P:=h
def art(h:P:=by
 go_enter func31,ntmps31;open Z renaming amD→Wl in exact Wn):P:=h
def aru(h:P:=by
 go_enter func31,ntmps31;open Z renaming amE→Wl in exact Wn):P:=h
def arv(h:P:=by
 go_enter func31,ntmps31;open Z renaming amI→Wl in exact Wn):P:=h
def arw(h:P:=by
 go_enter func31,ntmps31;open Z renaming amL→Wl in exact Wn):P:=h
def arx(h:P:=by
 go_enter func31,ntmps31;open Z renaming amP→Wl in exact Wn):P:=h
def ary(h:P:=by
 have Ws:=Zf hv;clear hv;go_enter func114,ntmps114;open Z renaming amQ→Wl in exact Wn):P:=h
def arz(h:P:=by
 have Ws:=Zf hv;clear hv;go_enter func113,ntmps113;open Z renaming amZ→Wl in exact Wn):P:=h
def arA(h:P:=by
 have Ws:=Zf hv;clear hv;go_enter func113,ntmps113;open Z renaming am1→Wl in exact Wn):P:=h
def pZ(h:P:=by
 have s1:Xp (Yh p) 0 (e1 p):=hs.left;have r1:=hs.right;have s2:=r1.left;have r2:=r1.right;have s3:=r2.left;have r3:=r2.right;have s4:=r3.left;have r4:=r3.right;have s5:=r4.left;have r5:=r4.right;have s6:=r5.left;have s7:=r5.right;open Z renaming afa→BW in exact vo):P:=h
def arB(h:P:=by
 refine jf l S J Jx hR.lays p.headers.p p.headers.l.length p.headers.cap p.metas.p p.metas.l.length p.metas.cap p.states.p p.states.l.length p.states.cap p.actions.p p.actions.l.length p.actions.cap p.tables.p p.tables.l.length p.tables.cap p.control.p p.control.l.length p.control.cap p.emit.p p.emit.l.length p.emit.cap (e1 p).length (e2 p).length (e3 p).length (e4 p).length (e5 p).length (e6 p).length (e7 p).length 0 pb W hb Xx hp h0 ?_ ?_ ?_ ?_ ?_ ?_ ?_
 ·intro V hV _ hJ
  rw[l1];refine lg Hr.cells J8 OG _ #[yv l] #[] (Hr.In w) S J Jx hR.lays w hS p.headers i0 (Xk Hr.sz (fun x=>atg) _ asQ) (enters_of func68 asC rfl) _ V (hw.trans hV) (Xb V hV) hJ ?_;intro i x W1 hx hK Xq;have hm:x∈p.headers.l:=Zo hx;have hl:x.fields.l.length≤1048576:=by
   exact uL
  exact aai l (Yh p) S J Jx hR i x.name x.fields.p x.fields.l.length x.fields.cap hl _ auD W1 (Xb W1 (hV.trans hK)) Xq
 ·intro V hV hc hJ
  rw[l2];refine ld Fd.cells J7 (fun _=>1) _ #[] #[.pointer (some ⟨W.heap.size,0,none⟩)] (Fd.In w) S J Jx hR.lays w hS p.metas i1 (Xk Fd.sz (fun x=>atm) _ asQ) (enters_of func70 asC rfl) _ V (hw.trans hV) (Xb V hV) hJ ?_;intro i x W1 hx hK Xq;exact iQ l (Yh p) S J Jx hR i x.name x.w W.heap.size _ W1 auE (hK.cell _ _ W7 hc) Xq
 ·intro V hV _ hJ
  rw[l3];refine lj Sa.cells J9 OH _ #[yv l] #[] (Sa.In w) S J Jx hR.lays w hS p.states i2 (Xk Sa.sz (fun x=>by unfold Sa.sz;omega) _ asQ) (enters_of func73 asC rfl) _ V (hw.trans hV) (Xb V hV) hJ ?_;open Z renaming akb→AO in exact uR
 ·intro V hV _ hJ
  rw[l4];refine m8 Ac.cells J5 QY _ #[yv l] #[] (Ac.In w) S J Jx hR.lays w hS p.actions i3 (Xk Ac.sz (fun x=>ath) _ asQ) (enters_of func75 asC rfl) _ V (hw.trans hV) (Xb V hV) hJ ?_;open Z renaming ag0→Ae in exact vN
 ·intro V hV _ hJ
  rw[l5];refine lr Ta.cells Ia OI _ #[yv l] #[] (Ta.In w) S J Jx hR.lays w hS p.tables i4 (Xk Ta.sz (fun x=>by unfold Ta.sz;omega) _ asQ) (enters_of func77 asC rfl) _ V (hw.trans hV) (Xb V hV) hJ ?_;open Z renaming aj9→AN in exact uQ
 ·intro V hV _ hJ
  exact Cw p.control l (Yh p) S J Jx hR (-1) w hS i5 asQ _ V (hw.trans hV) (Xb V hV) s6 hJ
 ·intro V hV hc hJ
  rw[l7];refine lu (fun _=>1) _ #[] #[.pointer (some ⟨W.heap.size,0,none⟩)] V2 S J Jx hR.lays w hS p.emit i6 (Xk Y1 (fun x=>as8) _ asQ) (enters_of func80 asC rfl) _ V (hw.trans hV) (Xb V hV) hJ ?_;intro i x W1 hx hK Xq;exact ly l (Yh p) S J Jx hR i x W.heap.size _ W1 auF (hK.cell _ _ W7 hc) Xq):P:=h
def arC(h:P:=by
 refine jg l S J Jx hR.lays p.headers.p p.headers.l.length p.headers.cap p.metas.p p.metas.l.length p.metas.cap p.states.p p.states.l.length p.states.cap p.actions.p p.actions.l.length p.actions.cap p.tables.p p.tables.l.length p.tables.cap p.control.p p.control.l.length p.control.cap p.emit.p p.emit.l.length p.emit.cap (e1 p).length (e2 p).length (e3 p).length (e4 p).length (e5 p).length (e6 p).length (e7 p).length 0 pb W hb Xx hp h0 ?_ ?_ ?_ ?_ ?_ ?_ ?_
 ·intro V hV _ hJ
  rw[l1];refine li Hr.cells J8 OG _ #[yv l] #[] (Hr.In w) S J Jx hR.lays w hS p.headers i0 (Xk Hr.sz (fun x=>atg) _ asQ) (enters_of func68 asC rfl) _ V (hw.trans hV) (Xb V hV) hJ ?_;intro i x W1 hx hK Xq;have hm:x∈p.headers.l:=Zo hx;have hl:x.fields.l.length≤1048576:=by
   exact uL
  exact aaj l (Yh p) S J Jx hR i x.name x.fields.p x.fields.l.length x.fields.cap hl _ auD W1 (Xb W1 (hV.trans hK)) Xq
 ·intro V hV hc hJ
  rw[l2];refine lf Fd.cells J7 (fun _=>1) _ #[] #[.pointer (some ⟨W.heap.size,0,none⟩)] (Fd.In w) S J Jx hR.lays w hS p.metas i1 (Xk Fd.sz (fun x=>atm) _ asQ) (enters_of func70 asC rfl) _ V (hw.trans hV) (Xb V hV) hJ ?_;intro i x W1 hx hK Xq;exact iR l (Yh p) S J Jx hR i x.name x.w W.heap.size _ W1 auE (hK.cell _ _ hc.no hc.cell) Xq
 ·intro V hV _ hJ
  rw[l3];refine lk Sa.cells J9 OH _ #[yv l] #[] (Sa.In w) S J Jx hR.lays w hS p.states i2 (Xk Sa.sz (fun x=>by unfold Sa.sz;omega) _ asQ) (enters_of func73 asC rfl) _ V (hw.trans hV) (Xb V hV) hJ ?_;open Z renaming akc→AO in exact uR
 ·intro V hV _ hJ
  rw[l4];refine la Ac.cells J5 QY _ #[yv l] #[] (Ac.In w) S J Jx hR.lays w hS p.actions i3 (Xk Ac.sz (fun x=>ath) _ asQ) (enters_of func75 asC rfl) _ V (hw.trans hV) (Xb V hV) hJ ?_;open Z renaming ag1→Ae in exact vN
 ·intro V hV _ hJ
  rw[l5];refine ls Ta.cells Ia OI _ #[yv l] #[] (Ta.In w) S J Jx hR.lays w hS p.tables i4 (Xk Ta.sz (fun x=>by unfold Ta.sz;omega) _ asQ) (enters_of func77 asC rfl) _ V (hw.trans hV) (Xb V hV) hJ ?_;open Z renaming aka→AN in exact uQ
 ·intro V hV _ hJ
  exact Cx p.control l (Yh p) S J Jx hR (-1) w hS i5 asQ _ V (hw.trans hV) (Xb V hV) s6 hJ
 ·intro V hV hc hJ
  rw[l7];refine lv (fun _=>1) _ #[] #[.pointer (some ⟨W.heap.size,0,none⟩)] V2 S J Jx hR.lays w hS p.emit i6 (Xk Y1 (fun x=>as8) _ asQ) (enters_of func80 asC rfl) _ V (hw.trans hV) (Xb V hV) hJ ?_;intro i x W1 hx hK Xq;exact lz l (Yh p) S J Jx hR i x W.heap.size _ W1 auF (hK.cell _ _ hc.no hc.cell) Xq):P:=h
def ML(h:P:=by
 open Z renaming agY→Lk in exact L5):P:=h
def arD(h:P:=by
 open Z renaming ahm→RQ in exact Qb):P:=h
def arE(h:P:=by
 open Z renaming ahn→RQ in exact Qb):P:=h
def arF(h:P:=by
 have q2c:=Zf (ZK hz h2.out);open Z renaming aho→RQ in exact Qb):P:=h
def arG(h:P:=by
 have q2c:=Zf (ZK hz h2.out);have q3c:=Zf (ZK hz h3.out);open Z renaming ahp→RQ in exact Qb):P:=h
def arH(h:P:=by
 have q2c:=Zf (ZK hz h2.out);open Z renaming ahq→RQ in exact Qb):P:=h
def arI(h:P:=by
 have q2c:=Zf (ZK hz h2.out);have q3c:=Zf (ZK hz h3.out);have q4c:=Zf (ZK hz h4.out);open Z renaming ahr→RQ in exact Qb):P:=h
def TG(h:P:=by
 refine Wz asC asC ?_;repeat (go_big_quiet_step (first|(with_reducible exact qh1.out _)))
 refine wpQuiet_nil ?_;exact TD):P:=h
def arJ(h:P:=by
 rintro _ ⟨y14,rfl⟩;by_cases i1:I=(k:Int)
 ·rw[if_pos i1]at hv
  subst i1;by_cases b1:B.tmod 8=0
  ·by_cases b2:B≤256
   ·rw[if_pos ⟨b1,b2⟩]at hv
    exact ro
   ·rw[if_neg (fun h=>b2 h.2)]at hv
    replace hv:=Zf hv;have b3:256<B:=asB;clear b2;exact rm
  ·rw[if_neg (fun h=>b1 h.1)]at hv
   exact ro
 ·rw[if_neg i1]at hv
  replace hv:=Zf hv;have i2:(I==(k:Int))=false:=by simpa using i1
  clear i1;exact Kg):P:=h
def arK(h:P:=by
 rintro _ ⟨y16,rfl⟩;exact Hf):P:=h
def arL(h:P:=by
 rintro _ ⟨y21,rfl⟩;exact Hf):P:=h
def arM(h:P:=by
 rintro _ ⟨y25,rfl⟩;exact rq):P:=h
def arN(h:P:=by
 rintro _ ⟨y28,rfl⟩;exact rq):P:=h
def arO(h:P:=by
 rintro _ ⟨y12,rfl⟩;rcases hI with i1|i1
 ·subst i1
  rw[if_pos rfl]at hv;exact PL
 ·rw[if_neg asB]at hv
  go_upto_region 4 with (fail)
  refine Wz asC asC ?_;repeat (go_big_quiet_step (first|(with_reducible exact qh2.out _)))
  refine wpQuiet_nil ?_;rintro _ ⟨y14,rfl⟩;by_cases i4:J<(k:Int)
  ·rw[if_pos i4]at hv
   exact PL
  ·exact rv):P:=h
def arP(h:P:=by
 rintro _ ⟨y13,rfl⟩;rcases hI with i1|i1
 ·subst i1
  exact ru
 ·have i2:0≤I:=by omega
  have i3:(I !=-1)=true:=atV;rw[i3]at hv;replace hv:=Zf hv;clear i3;exact DE):P:=h
def arQ(h:P:=by
 rintro _ ⟨y15,rfl⟩;go_wp2_with (fail);exact Uk):P:=h
def arR(h:P:=by
 rintro _ ⟨y19,rfl⟩;rcases hI with i1|i1
 ·subst i1
  rw[if_pos rfl]at hv;exact PL
 ·rw[if_neg asB]at hv
  go_upto_region 11 with (fail)
  refine Wz asC asC ?_;repeat (go_big_quiet_step (first|(with_reducible exact qh2.out _)))
  refine wpQuiet_nil ?_;rintro _ ⟨y21,rfl⟩;by_cases i4:J<(j:Int)
  ·rw[if_pos i4]at hv
   exact PL
  ·exact rv):P:=h
def arS(h:P:=by
 rintro _ ⟨y2,rfl⟩;go_wp2_with (first|(go_at_call 88;with_reducible refine (qh1.out _).mono ?_;rintro r w' ⟨rfl,x,rfl⟩));exact Uk):P:=h
def arT(h:P:=by
 rintro _ ⟨y2,rfl⟩;go_wp2_with (first|(go_at_call 89;with_reducible refine (qh1.out _).mono ?_;rintro r w' ⟨rfl,x,rfl⟩));exact Uk):P:=h
def arU(h:P:=by
 rintro _ ⟨y2,rfl⟩;go_wp2_with (first|(go_at_call 94;with_reducible refine (qh1.out _).mono ?_;rintro r w' ⟨rfl,x,rfl⟩));exact Uk):P:=h
def arV(h:P:=by
 rintro _ ⟨y2,rfl⟩;go_wp2_with (first|(go_at_call 96;with_reducible refine (qh1.out _).mono ?_;rintro r w' ⟨rfl,x,rfl⟩));exact Uk):P:=h
def arW(h:P:=by
 rintro _ ⟨y18,rfl⟩;exact Hf):P:=h
def arX(h:P:=by
 rintro _ ⟨y23,rfl⟩;exact Hf):P:=h
def arY(h:P:=by
 rintro _ ⟨y19,rfl⟩;cases b with
 | true =>
  replace hv:=Zf hv;go_wp2_with (fail);go_ret;exact⟨congrArg (fun z=>Zd (Zz .i64 z)) hv.out,asK⟩
 | false =>
  replace hv:=Zf hv;go_wp2_with (fail);go_ret;exact⟨congrArg (fun z=>Zd (Zz .i64 z)) hv.out,asK⟩):P:=h
def Q6(h:P:=by
 refine Wz asC asC ?_;repeat (go_big_quiet_step (first|(with_reducible exact qh1.out _)|(with_reducible exact qh2.out _)))
 refine wpQuiet_nil ?_;rintro _ ⟨y2,rfl⟩;exact QX):P:=h
def arZ(h:P:=by
 go_wp2_with (first|(go_at_call 83;with_reducible refine (qh1.out _).mono ?_;rintro r w' ⟨rfl,x,rfl⟩)|(go_at_call 82;with_reducible refine (qh2.out _).mono ?_;rintro r w' ⟨rfl,x,rfl⟩));exact Uk):P:=h
def ar0(h:P:=by
 go_wp2_with (first|(go_at_call 84;with_reducible refine (qh1.out _).mono ?_;rintro r w' ⟨rfl,x,rfl⟩)|(go_at_call 82;with_reducible refine (qh2.out _).mono ?_;rintro r w' ⟨rfl,x,rfl⟩));exact Uk):P:=h
def ar1(h:P:=by
 go_wp2_with (first|(go_at_call 90;with_reducible refine (qh1.out _).mono ?_;rintro r w' ⟨rfl,x,rfl⟩)|(go_at_call 82;with_reducible refine (qh2.out _).mono ?_;rintro r w' ⟨rfl,x,rfl⟩));exact Uk):P:=h
def ar2(h:P:=by
 go_wp2_with (first|(go_at_call 91;with_reducible refine (qh1.out _).mono ?_;rintro r w' ⟨rfl,x,rfl⟩)|(go_at_call 82;with_reducible refine (qh2.out _).mono ?_;rintro r w' ⟨rfl,x,rfl⟩));exact Uk):P:=h
def ar3(h:P:=by
 go_wp2_with (first|(go_at_call 87;with_reducible refine (qh1.out _).mono ?_;rintro r w' ⟨rfl,x,rfl⟩)|(go_at_call 95;with_reducible refine (qh2.out _).mono ?_;rintro r w' ⟨rfl,x,rfl⟩));exact Uk):P:=h
def ar4(h:P:=by
 go_wp2_with (first|(go_at_call 85;with_reducible refine (qh1.out _).mono ?_;rintro r w' ⟨rfl,x,rfl⟩)|(go_at_call 82;with_reducible refine (qh2.out _).mono ?_;rintro r w' ⟨rfl,x,rfl⟩));exact Uk):P:=h
def ar5(h:P:=by
 go_wp2_with (first|(go_at_call 87;with_reducible refine (qh1.out _).mono ?_;rintro r w' ⟨rfl,x,rfl⟩)|(go_at_call 86;with_reducible refine (qh2.out _).mono ?_;rintro r w' ⟨rfl,x,rfl⟩));exact Uk):P:=h
def ar6(h:P:=by
 go_wp2_with (first|(go_at_call 93;with_reducible refine (qh1.out _).mono ?_;rintro r w' ⟨rfl,x,rfl⟩)|(go_at_call 82;with_reducible refine (qh2.out _).mono ?_;rintro r w' ⟨rfl,x,rfl⟩));exact Uk):P:=h
def ar7(h:P:=by
 go_wp2_with (first|(go_at_call 90;with_reducible refine (qh1.out _).mono ?_;rintro r w' ⟨rfl,x,rfl⟩)|(go_at_call 95;with_reducible refine (qh2.out _).mono ?_;rintro r w' ⟨rfl,x,rfl⟩));exact Uk):P:=h
def Vk(h:P:=by
 have hF:=Zf (show (false)=R by first|exact hR|(rw[←hR];simp[q1,q2]));exact Vg):P:=h
def ar8(h:P:=by
 clear hR;clear q2c q3c;exact qp):P:=h
def ar9(h:P:=by
 clear hR;clear q3c;go_wp2_with (first|(go_at_call 174;with_reducible refine (q1c.out _).mono ?_;rintro r w' ⟨rfl,x,rfl⟩)|(go_at_call 107;with_reducible refine (q2c.out _).mono ?_;rintro r w' ⟨rfl,x,rfl⟩));exact XO):P:=h
def Rw(h:P:=by
 have hF:=Zf (show false=Xe lo hi may l by unfold Xe;rw[hn,decide_eq_false (show ¬(n:Int)≤hi by omega)];simp);exact Rm):P:=h
def Rx(h:P:=by
 have hF:=Zf (show false=Xe lo hi may l by unfold Xe;rw[hn,decide_eq_false (show ¬lo≤(n:Int) by omega)];rfl);exact Rn):P:=h
def Nb(h:P:=by
 intro y0;have h1:=h1.up y0;have hc:=hc.plus y0;have hc2:=hc2.plus y0;obtain⟨V,hV⟩:=ZB (plus w y0);rw[hV]at h1 hc hc2 ⊢;clear hV;have YA:=Zf h1;have Yo:=Zf hc;have Vc:=Zf hc2;clear h1 hc hc2;exact OE):P:=h
def asa(h:P:=by
 go_enter func31,ntmps31;open Z renaming amH→Wl in exact Wn):P:=h
def asb(h:P:=by
 go_enter func31,ntmps31;open Z renaming amM→Wl in exact Wn):P:=h
def asc(h:P:=by
 have Ws:=Zf hv;clear hv;go_enter func114,ntmps114;open Z renaming amV→Wl in exact Wn):P:=h
def asd(h:P:=by
 have Ws:=Zf hv;clear hv;go_enter func114,ntmps114;open Z renaming amW→Wl in exact Wn):P:=h
def ase(h:P:=by
 have Ws:=Zf hv;clear hv;go_enter func110,ntmps110;open Z renaming amX→Wl in exact Wn):P:=h
def asf(h:P:=by
 have Ws:=Zf hv;clear hv;go_enter func110,ntmps110;open Z renaming amY→Wl in exact Wn):P:=h
def asg(h:P:=by
 have Ws:=Zf hv;clear hv;go_enter func40,ntmps40;open Z renaming am4→Wl in exact Wn):P:=h
def MM(h:P:=by
 obtain⟨R,hR⟩:=ZB (YL may l 0);have h0:YL may (l.drop 0) 0=R:=hR;open Z renaming agv→Pl in exact PI):P:=h
def ash(h:P:=by
 go_enter func151,ntmps151;go_wp2;go_loopw [5,6,9] (fun _ _ iv wr=>∃k:Nat,k≤n∧iv=.int .i64 (k:Int)∧Hid (YL may (l.drop k) k=R)∧∃y,wr=plus W y) (fun _ _ iv _=>n-(intOf iv).toNat)
 case atStart=>exact⟨0,Zw _,rfl,YM,⟨#[],W.drawn⟩,(Yk W).symm⟩
 case round =>
  obtain⟨k,hk,rfl,hs,y,rfl⟩:=hrel;by_cases ZC:k<n
  ·obtain⟨a,ha⟩:=Yq l k asG
   open Z renaming acw→Ox in exact OV
  ·exact OU):P:=h
def asi(h:P:=by
 go_enter func198,ntmps198;go_wp2;go_loopw [5,6,9] (fun _ _ iv wr=>∃k:Nat,k≤n∧iv=.int .i64 (k:Int)∧Hid (YL may (l.drop k) k=R)∧∃y,wr=plus W y) (fun _ _ iv _=>n-(intOf iv).toNat)
 case atStart=>exact⟨0,Zw _,rfl,YM,⟨#[],W.drawn⟩,(Yk W).symm⟩
 case round =>
  obtain⟨k,hk,rfl,hs,y,rfl⟩:=hrel;by_cases ZC:k<n
  ·obtain⟨a,ha⟩:=Yq l k asG
   open Z renaming acx→Ox in exact OV
  ·exact OU):P:=h
def asj(h:P:=by
 go_enter func149,ntmps149;go_wp2;go_loopw [5,6,9] (fun _ _ iv wr=>∃k:Nat,k≤n∧iv=.int .i64 (k:Int)∧Hid (YL may (l.drop k) k=R)∧∃y,wr=plus W y) (fun _ _ iv _=>n-(intOf iv).toNat)
 case atStart=>exact⟨0,Zw _,rfl,YM,⟨#[],W.drawn⟩,(Yk W).symm⟩
 case round =>
  obtain⟨k,hk,rfl,hs,y,rfl⟩:=hrel;by_cases ZC:k<n
  ·obtain⟨a,ha⟩:=Yq l k asG
   open Z renaming acy→Ox in exact OV
  ·exact OU):P:=h
def ask(h:P:=by
 go_enter func153,ntmps153;go_wp2;go_loopw [5,6,9] (fun _ _ iv wr=>∃k:Nat,k≤n∧iv=.int .i64 (k:Int)∧Hid (YL may (l.drop k) k=R)∧∃y,wr=plus W y) (fun _ _ iv _=>n-(intOf iv).toNat)
 case atStart=>exact⟨0,Zw _,rfl,YM,⟨#[],W.drawn⟩,(Yk W).symm⟩
 case round =>
  obtain⟨k,hk,rfl,hs,y,rfl⟩:=hrel;by_cases ZC:k<n
  ·obtain⟨a,ha⟩:=Yq l k asG
   open Z renaming acz→Ox in exact OV
  ·exact OU):P:=h
def asl(h:P:=by
 go_enter func156,ntmps156;go_wp2;go_loopw [5,6,9] (fun _ _ iv wr=>∃k:Nat,k≤n∧iv=.int .i64 (k:Int)∧Hid (YL may (l.drop k) k=R)∧∃y,wr=plus W y) (fun _ _ iv _=>n-(intOf iv).toNat)
 case atStart=>exact⟨0,Zw _,rfl,YM,⟨#[],W.drawn⟩,(Yk W).symm⟩
 case round =>
  obtain⟨k,hk,rfl,hs,y,rfl⟩:=hrel;by_cases ZC:k<n
  ·obtain⟨a,ha⟩:=Yq l k asG
   open Z renaming acA→Ox in exact OV
  ·exact OU):P:=h
def asm(h:P:=by
 go_enter func160,ntmps160;go_wp2;go_loopw [5,6,9] (fun _ _ iv wr=>∃k:Nat,k≤n∧iv=.int .i64 (k:Int)∧Hid (YL may (l.drop k) k=R)∧∃y,wr=plus W y) (fun _ _ iv _=>n-(intOf iv).toNat)
 case atStart=>exact⟨0,Zw _,rfl,YM,⟨#[],W.drawn⟩,(Yk W).symm⟩
 case round =>
  obtain⟨k,hk,rfl,hs,y,rfl⟩:=hrel;by_cases ZC:k<n
  ·obtain⟨a,ha⟩:=Yq l k asG
   open Z renaming acC→Ox in exact OV
  ·exact OU):P:=h
def Hw(h:P:=by
 intro y0;have ka:=ka.up y0;have ko:=ko.up y0;have ma:=ma.plus y0;obtain⟨V,hV⟩:=ZB (plus w y0);rw[hV]at ka ko ma ⊢;clear hV;have ka':=Zf ka;have ko':=Zf ko;have ma':=Zf ma;clear ka ko ma;go_enter func28,ntmps28;go_upto_region 1 with (fail)
 obtain⟨X,Y0,hX,⟨zX,ZE⟩,-,ca,cb,cc,fc⟩:=Tb V _ _ _ 90 45 75;exact Jy):P:=h
def asn(h:P:=by
 open Z renaming anr→WL in exact WO):P:=h
def aso(h:P:=by
 open Z renaming ans→WL in exact WO):P:=h
def asp(h:P:=by
 open Z renaming anK→WL in exact WO):P:=h
def asq(h:P:=by
 open Z renaming anL→WL in exact WO):P:=h
def WX(h:P:=by
 have hF:=Zf (show (false)=R by first|exact hR|(rw[←hR];simp[q1]));exact WV):P:=h
def asr(h:P:=by
 clear hR;clear h1;have h0:=Zf h0;go_enter func136,ntmps136;exact DY):P:=h
def ass(h:P:=by
 clear hR;clear h1;have h0:=Zf h0;go_enter func175,ntmps175;exact DY):P:=h
def ast(h:P:=by
 clear hR;clear q3c;go_wp2_with (first|(go_at_call 104;with_reducible refine (q1c.out _).mono ?_;rintro r w' ⟨rfl,x,rfl⟩)|(go_at_call 104;with_reducible refine (q2c.out _).mono ?_;rintro r w' ⟨rfl,x,rfl⟩));exact XO):P:=h
def asu(h:P:=by
 clear hR;clear h1;have h0:=Zf h0;go_enter func174,ntmps174;exact ow):P:=h
def asv(h:P:=by
 clear hR;clear h2;have h0:=Zf h0;have h1:=Zf h1;go_enter func106,ntmps106;go_wp2_with fail;obtain⟨W,yy,hW,⟨z,hz⟩,cb0⟩:=YO V _ 61;rw[hW];have c0_0:=cb0 0 _ rfl;have c0_1:=cb0 1 _ rfl;have c0_2:=cb0 2 _ rfl;have c0_3:=cb0 3 _ rfl;have c0_4:=cb0 4 _ rfl;open Z renaming afR→Lh in exact L0):P:=h
def xZ(h:P:=by
 open Z renaming aeo→Gr in exact ER):P:=h
def abG(h:P:=by
 go_upto_region 4 with (first|(go_at_call 39;with_reducible refine (qM.out _).mono ?_;rintro r w' ⟨rfl,x,rfl⟩)|(go_at_call 9;with_reducible refine (hI.out _ ⟨_,rfl⟩).mono ?_;rintro r X ⟨v,rfl,hX⟩;obtain⟨q,c,rfl,rX⟩:=hX.row;obtain⟨zX,ZE⟩:=hX.plus;have rX':=Zf rX;have NH:=Zf (show ∃z,X=plus U z from⟨_,ZE.trans (ZD _ _ _)⟩);clear hX rX ZE))
 obtain⟨n,hn⟩:=ZB ((Yh p).length);rw[hn];have ZO:=Zf hn;have Yt:=Zf (show n≤2097152 from by rw[←hn];exact S9 p ZN.out);clear hn;go_wp2;go_loopw [5,6] (fun iv _ wr=>∃k:Nat,k≤n∧iv=.int .i64 (k:Int)∧Hid (∀j y,j<k→(Yh p)[j]?=some y→Yu p y=0)∧∃z,wr=plus X z) (fun iv _ _=>n-(intOf iv).toNat)
 case atStart=>exact⟨0,Zw _,rfl,Zf (fun j y hj _=>absurd hj (Nat.not_lt_zero j)),_,(Yk X).symm⟩
 case round =>
  obtain⟨k,hk,rfl,hs,zr,rfl⟩:=hrel;by_cases ZC:k<n
  ·obtain⟨it,Tx⟩:∃z,(Yh p)[k]?=some z:=⟨(Yh p)[k]'asG,List.getElem?_eq_getElem _⟩
   have ZV:=Zo Tx;obtain⟨pa,Yw,hc⟩:=rX'.out k it Tx;have hag:=abi p w VR.out ZN.out XI.out it ZV (yZ p k it Tx hs.out);have VS:=PZ p w VR.out ZN.out it ZV;have Qr:=fI p w VR.out ZN.out it VS;rw[hag,It.v_cs]at Qr;obtain⟨zX,ZE⟩:=NH.out;obtain⟨zw,hzw⟩:∃x,X=plus w x:=by rw[ZE,hzU'.out,ZD];exact⟨_,rfl⟩
   have q1:=Zf (ZK hzw Qr);obtain⟨E,hE⟩:=ZB (Yu p it);rw[hE]at q1;have Pj:=Zf (fun (h:E≠0)=>(F9 p (Yh p) 0 k it Tx hs.out (by rw[hE];exact h)).symm.trans ZR.out);have Ot:=Zf (fun (h:E=0)=>(fun j y (hj:j<k+1) (hy:(Yh p)[j]?=some y)=>by
    by_cases e:j<k
    ·exact hs.out j y e hy
    ·obtain rfl:j=k:=by omega
     rw[Tx]at hy;obtain rfl:it=y:=ats;exact hE.trans h:∀j y,j<k+1→(Yh p)[j]?=some y→Yu p y=0))
   open Z renaming aqA→zC in exact pN
  ·obtain rfl:k=n:=by omega
   have ZP:=Zf ((F8 p (Yh p) 0 (fun j y hj hy=>hs.out j y (by rw[ZO.out]at hj;exact hj) hy)).symm.trans ZR.out);exact pl):P:=h
def abH(h:P:=by
 go_upto_region 5 with (first|(go_at_call 22;with_reducible refine (qM.out _).mono ?_;rintro r w' ⟨rfl,x,rfl⟩)|(go_at_call 9;with_reducible refine (hI.out _ ⟨_,rfl⟩).mono ?_;rintro r X ⟨v,rfl,hX⟩;obtain⟨q,c,rfl,rX⟩:=hX.row;obtain⟨zX,ZE⟩:=hX.plus;have rX':=Zf rX;have NH:=Zf (show ∃z,X=plus U z from⟨_,ZE.trans (ZD _ _ _)⟩);clear hX rX ZE))
 obtain⟨n,hn⟩:=ZB ((Yh p).length);rw[hn];have ZO:=Zf hn;have Yt:=Zf (show n≤2097152 from by rw[←hn];exact S9 p ZN.out);clear hn;go_wp2;go_loopw [7,8] (fun iv _ wr=>∃k:Nat,k≤n∧iv=.int .i64 (k:Int)∧Hid (∀j y,j<k→(Yh p)[j]?=some y→XL p y=0)∧∃z,wr=plus X z) (fun iv _ _=>n-(intOf iv).toNat)
 case atStart=>exact⟨0,Zw _,rfl,Zf (fun j y hj _=>absurd hj (Nat.not_lt_zero j)),_,(Yk X).symm⟩
 case round =>
  obtain⟨k,hk,rfl,hs,zr,rfl⟩:=hrel;by_cases ZC:k<n
  ·obtain⟨it,Tx⟩:∃z,(Yh p)[k]?=some z:=⟨(Yh p)[k]'asG,List.getElem?_eq_getElem _⟩
   have ZV:=Zo Tx;obtain⟨pa,Yw,hc⟩:=rX'.out k it Tx;have VS:=PZ p w VR.out ZN.out it ZV;have Qr:=eY p w VR.out ZN.out Uq.out XI.out it (hno'.out it ZV) VS;obtain⟨zX,ZE⟩:=NH.out;obtain⟨zw,hzw⟩:∃x,X=plus w x:=by rw[ZE,hzU'.out,ZD];exact⟨_,rfl⟩
   have q1:=Zf (ZK hzw Qr);obtain⟨E,hE⟩:=ZB (XL p it);rw[hE]at q1;have Pj:=Zf (fun (h:E≠0)=>(F7 p (Yh p) 0 k it Tx hs.out (by rw[hE];exact h)).symm.trans ZR.out);have Ot:=Zf (fun (h:E=0)=>(fun j y (hj:j<k+1) (hy:(Yh p)[j]?=some y)=>by
    by_cases e:j<k
    ·exact hs.out j y e hy
    ·obtain rfl:j=k:=by omega
     rw[Tx]at hy;obtain rfl:it=y:=ats;exact hE.trans h:∀j y,j<k+1→(Yh p)[j]?=some y→XL p y=0))
   open Z renaming aqB→zC in exact pN
  ·obtain rfl:k=n:=by omega
   have ZP:=Zf ((F6 p (Yh p) 0 (fun j y hy=>hs.out j y (by have:=(Zi.1 hy).1;rw[ZO.out]at this;exact this) hy)).symm.trans ZR.out);exact pl):P:=h
def Mp(h:P:=by
 have Yv:=YR ZG Yo.out;open Z renaming adH→Ld in exact LU):P:=h
def abI(h:P:=by
 have X7:=YR ZG Vc.out;have e0:=fun y=>(X7.plus y).c0 _ rfl;simp only[Nat.mul_one]at e0;have UU:=Zf ZG;clear hW ZG cp ci Yv X7;go_upto_region 2 with (fail)
 obtain⟨U,hU,hB,-,ct,-⟩:=WS (plus W yy) _ 61;open Z renaming an6→NX in exact ME):P:=h
def abJ(h:P:=by
 have X7:=YR ZG Vc.out;have e0:=fun y=>(X7.plus y).c0 _ rfl;have e1:=fun y=>(X7.plus y).cs 0 _ rfl;have e2:=fun y=>(X7.plus y).cs 1 _ rfl;have UU:=Zf ZG;clear hW ZG cp ci Yv X7;go_upto_region 2 with (fail)
 obtain⟨U,hU,hB,-,ct,-⟩:=WS (plus W yy) _ 61;open Z renaming an7→NX in exact ME):P:=h
def abK(h:P:=by
 have X7:=YR ZG Vc.out;have e0:=fun y=>(X7.plus y).c0 _ rfl;simp only[Nat.mul_one]at e0;have UU:=Zf ZG;clear hW ZG cp ci Yv X7;go_upto_region 8 with (fail)
 obtain⟨U,hU,hB,-,ct,-⟩:=WS (plus W yy) _ 58;open Z renaming an8→NX in exact ME):P:=h
def abL(h:P:=by
 have UU:=Zf ZG;clear hW ZG cp ci Yv;go_upto_region 8 with (fail)
 obtain⟨U,hU,hB,-,ct,-⟩:=WS (plus W yy) _ 58;open Z renaming an9→NX in exact ME):P:=h
def abM(h:P:=by
 have QS:=YR ZG hc3'.out;have x0:=fun y=>(QS.plus y).c0 _ rfl;have x1:=fun y=>(QS.plus y).cs 0 _ rfl;have x2:=fun y=>(QS.plus y).cs 1 _ rfl;have UU:=Zf ZG;clear hW ZG cp ci Yv QS;go_upto_region 8 with (fail)
 obtain⟨U,hU,hB,-,ct,-⟩:=WS (plus W yy) _ 58;open Z renaming aoa→NX in exact ME):P:=h
def abN(h:P:=by
 have UU:=Zf ZG;clear hW ZG cp ci Yv;go_upto_region 2 with (fail)
 obtain⟨U,hU,hB,-,ct,-⟩:=WS (plus W yy) _ 61;open Z renaming aob→NX in exact ME):P:=h
def Mq(h:P:=by
 have Yv:=YR X9 Yo.out;have d0:=fun y=>(Yv.plus y).c0 _ rfl;have d1:=fun y=>(Yv.plus y).cs 0 _ rfl;have d2:=fun y=>(Yv.plus y).cs 1 _ rfl;have d3:=fun y=>(Yv.plus y).cs 2 _ rfl;have d4:=fun y=>(Yv.plus y).cs 3 _ rfl;exact NK):P:=h
def abO(h:P:=by
 have X7:=YR X9 Vc.out;have e0:=fun y=>(X7.plus y).c0 _ rfl;simp only[Nat.mul_one]at e0;open Z renaming afC→NN in exact Mt):P:=h
def abP(h:P:=by
 have X7:=YR X9 Vc.out;have e0:=fun y=>(X7.plus y).c0 _ rfl;have e1:=fun y=>(X7.plus y).cs 0 _ rfl;have e2:=fun y=>(X7.plus y).cs 1 _ rfl;open Z renaming afD→NN in exact Mt):P:=h
def abQ(h:P:=by
 have X7:=YR X9 Vc.out;have e0:=fun y=>(X7.plus y).c0 _ rfl;simp only[Nat.mul_one]at e0;open Z renaming afE→NN in exact Mt):P:=h
def abR(h:P:=by
 open Z renaming afF→NN in exact Mt):P:=h
def abS(h:P:=by
 have QS:=YR X9 hc3'.out;have x0:=fun y=>(QS.plus y).c0 _ rfl;have x1:=fun y=>(QS.plus y).cs 0 _ rfl;have x2:=fun y=>(QS.plus y).cs 1 _ rfl;open Z renaming afG→NN in exact Mt):P:=h
def abT(h:P:=by
 open Z renaming afH→NN in exact Mt):P:=h
def LO(h:P:=by
 intro y0;have h1:=h1.up y0;have h2:=h2.up y0;have hc:=hc.plus y0;have hc2:=hc2.plus y0;obtain⟨V,hV⟩:=ZB (plus w y0);rw[hV]at h1 h2 hc hc2 ⊢;clear hV;have YA:=Zf h1;have Xg:=Zf h2;have Yo:=Zf hc;have Vc:=Zf hc2;clear h1 h2 hc hc2;exact M9):P:=h
def abU(h:P:=by
 go_enter func31,ntmps31;open Z renaming amC→Wl in exact Wn):P:=h
def abV(h:P:=by
 go_enter func31,ntmps31;open Z renaming amF→Wl in exact Wn):P:=h
def abW(h:P:=by
 go_enter func31,ntmps31;open Z renaming amJ→Wl in exact Wn):P:=h
def abX(h:P:=by
 go_enter func31,ntmps31;open Z renaming amN→Wl in exact Wn):P:=h
def abY(h:P:=by
 have Ws:=Zf hv;clear hv;go_enter func113,ntmps113;open Z renaming am0→Wl in exact Wn):P:=h
def LQ(h:P:=by
 refine (qhN.out Y0).mono ?_;rintro r w' ⟨rfl,x1,rfl⟩;clear qhN;go_wp2_with fail;refine (Vq X 7 x1).mono ?_;rintro r w' ⟨rfl,x2,rfl⟩;rw[ZD];obtain⟨Y2,hY2⟩:=ZB ((⟨ZH.blocks x1++ZH.blocks x2,ZH.draws x2⟩:ZH):ZH);rw[hY2];clear hY2;exact La):P:=h
def abZ(h:P:=by
 have YS:=hR.out Y2;open Z renaming ajq→NS in exact Mx):P:=h
def ab0(h:P:=by
 have Sg:¬((a:Int)<0):=asB;have KR:¬((i:Int)<0):=asB;go_upto_region 10 with (fail)
 refine Wj 18 asC asC ?_;simp only[Zs,List.take_zero,Zg,Zh];repeat (go_big_quiet_step (first|(with_reducible exact qk.out _)))
 refine wpQuiet_nil ?_;rintro _ ⟨y7,rfl⟩;clear qk;go_wp2_with fail;refine (OS tw X y7).mono ?_;rintro r w' ⟨rfl,x4,rfl⟩;rw[ZD];obtain⟨Y4,hY4⟩:=ZB ((⟨ZH.blocks y7++ZH.blocks x4,ZH.draws x4⟩:ZH):ZH);exact wZ):P:=h
def ab1(h:P:=by
 go_wp2_with fail;refine (xz X Y2).mono ?_;rintro r w' ⟨rfl,x4,rfl⟩;rw[ZD];obtain⟨Y4,hY4⟩:=ZB ((⟨ZH.blocks Y2++ZH.blocks x4,ZH.draws x4⟩:ZH):ZH);rw[hY4];clear hY4;simp only[Ty.v];have YS:=hR.out Y4;open Z renaming ajr→NS in exact Mx):P:=h
def ab2(h:P:=by
 go_wp2_with fail;refine (OS 9 X Y2).mono ?_;rintro r w' ⟨rfl,x4,rfl⟩;rw[ZD];obtain⟨Y4,hY4⟩:=ZB ((⟨ZH.blocks Y2++ZH.blocks x4,ZH.draws x4⟩:ZH):ZH);rw[hY4];clear hY4;simp only[Ty.v,XN];have YS:=hR.out Y4;open Z renaming ajs→NS in exact Mx):P:=h
def ab3(h:P:=by
 go_wp2_with fail;refine (qk.out Y2).mono ?_;rintro r w' ⟨rfl,x3,rfl⟩;clear qk;go_wp2_with fail;refine (OS tw X x3).mono ?_;rintro r w' ⟨rfl,x4,rfl⟩;rw[ZD];obtain⟨Y4,hY4⟩:=ZB ((⟨ZH.blocks x3++ZH.blocks x4,ZH.draws x4⟩:ZH):ZH);exact wZ):P:=h
def TZ(h:P:=by
 refine Wz asC asC ?_;repeat (go_big_quiet_step (fail))
 refine wpQuiet_nil ?_;rintro _ ⟨y1,rfl⟩;exact TT):P:=h
def ab4(h:P:=by
 go_wp2_with (first|(go_at_call 81;with_reducible refine (qh1.out _).mono ?_;rintro r w' ⟨rfl,x,rfl⟩));exact Uk):P:=h
def ab5(h:P:=by
 go_upto_region 6 with (fail)
 open Z renaming arZ→QX in exact Q6):P:=h
def ab6(h:P:=by
 go_upto_region 8 with (fail)
 open Z renaming ar0→QX in exact Q6):P:=h
def ab7(h:P:=by
 go_upto_region 19 with (fail)
 open Z renaming ar1→QX in exact Q6):P:=h
def ab8(h:P:=by
 go_upto_region 21 with (fail)
 open Z renaming ar2→QX in exact Q6):P:=h
def ab9(h:P:=by
 go_wp2_with (first|(go_at_call 92;with_reducible refine (qh1.out _).mono ?_;rintro r w' ⟨rfl,x,rfl⟩));exact Uk):P:=h
def aca(h:P:=by
 go_upto_region 33 with (fail)
 open Z renaming ar3→QX in exact Q6):P:=h
def acb(h:P:=by
 go_upto_region 10 with (fail)
 open Z renaming ar4→QX in exact Q6):P:=h
def acc(h:P:=by
 go_upto_region 13 with (fail)
 open Z renaming ar5→QX in exact Q6):P:=h
def acd(h:P:=by
 go_upto_region 15 with (fail)
 open Z renaming arS→TD in exact TG):P:=h
def ace(h:P:=by
 go_upto_region 17 with (fail)
 open Z renaming arT→TD in exact TG):P:=h
def acf(h:P:=by
 go_upto_region 25 with (fail)
 open Z renaming ar6→QX in exact Q6):P:=h
def acg(h:P:=by
 go_upto_region 27 with (fail)
 open Z renaming arU→TD in exact TG):P:=h
def ach(h:P:=by
 go_upto_region 29 with (fail)
 open Z renaming ar7→QX in exact Q6):P:=h
def aci(h:P:=by
 go_upto_region 31 with (fail)
 open Z renaming arV→TD in exact TG):P:=h
def wv(h:P:=by
 have q1:=xJ e V hei asB;rw[hE1]at q1 r3;obtain⟨eop,⟨elw,elh,ell⟩,ehd,enm,eeh,eel,ep,ecap,eargs⟩:=e;have q1:Wo Zx V 14 #[.agg #[.int .u8 eop,.int .i64 elw,.int .u64 elh,.int .u64 ell,.string ehd,.string enm,.int .i64 eeh,.int .i64 eel,.slice ep eargs.length ecap]] _:=q1;have e0:=fun y=>(hc.plus y).c0 _ rfl;have e1:=fun y=>(hc.plus y).cs 0 _ rfl;have e2:=fun y=>(hc.plus y).cs 1 _ rfl;have e3:=fun y=>(hc.plus y).cs 2 _ rfl;have e4:=fun y=>(hc.plus y).cs 3 _ rfl;have e5:=fun y=>(hc.plus y).cs 4 _ rfl;have e6:=fun y=>(hc.plus y).cs 5 _ rfl;have e7:=fun y=>(hc.plus y).cs 6 _ rfl;have e8:=fun y=>(hc.plus y).cs 7 _ rfl;simp only[Ex.op,Ex.lit,Ex.head,Ex.name,Ex.hi,Ex.lo,Ex.p,Ex.cap,Ex.args]at e0 e1 e2 e3 e4 e5 e6 e7 e8;have r6:=Zf (Y7 j ny Tz by_.out);exact BE):P:=h
def acj(h:P:=by
 have r7:=Zf (abl (YT Ex.wt B3 yl j) E1 (YT Ex.wt B3 yl (j+1)) r3 r0);have q1':=Zf q1;clear q1 r3 r4 r0 hei hE1 hc he;exact sA):P:=h
def ack(h:P:=by
 have r7:=Zf (abk (YT Ke.sz B3 yl j) E1 (YT Ke.sz B3 yl (j+1)) r3 r0);have q1':=Zf q1;clear q1 r3 r4 r5 r0 hei hE1 hc he;exact sA):P:=h
def ww(h:P:=by
 clear Xh Ou h11 M5 hcmp;go_enter func51,ntmps51;go_wp2_with fail;obtain⟨X,Y0,hX,⟨zX,ZE⟩,ca,cb,cc,cd,fd⟩:=S7 V _ _ _ _ 45 75 75 75;rw[hX];open Z renaming ahe→Ll in exact L6):P:=h
def acl(h:P:=by
 clear kc2 ks2 kt2;go_wp2_with fail;refine (OS C2 X x5).mono ?_;rintro r w' ⟨rfl,x6,rfl⟩;rw[ZD];obtain⟨Y6,hY6⟩:=ZB ((⟨ZH.blocks x5++ZH.blocks x6,ZH.draws x6⟩:ZH):ZH);rw[hY6];clear hY6;simp only[Ty.v,XN];have YS:=hR.out Y6;open Z renaming ajt→NS in exact Mx):P:=h
def acm(h:P:=by
 clear kc2 ks2 kt2 hR;exact wN):P:=h
def EK(h:P:=by
 have umd:=YR ZE md'.out;have d0:=fun y=>(umd.plus y).c0 _ rfl;have d1:=fun y=>(umd.plus y).cs 0 _ rfl;have d2:=fun y=>(umd.plus y).cs 1 _ rfl;have d3:=fun y=>(umd.plus y).cs 2 _ rfl;have d4:=fun y=>(umd.plus y).cs 3 _ rfl;have d5:=fun y=>(umd.plus y).cs 4 _ rfl;have d6:=fun y=>(umd.plus y).cs 5 _ rfl;have d7:=fun y=>(umd.plus y).cs 6 _ rfl;have d8:=fun y=>(umd.plus y).cs 7 _ rfl;clear umd;have ZY:=Zf ZE;exact Gl):P:=h
def acn(h:P:=by
 clear hX ca cb cc fc ZE ka' kd' ma' md';go_upto_region 3 with (fail)
 rw[show ((en:Int)==0)=false from beq_eq_false_iff_ne.2 asB];go_cut [5] from 13 to 18 (fun s5 wx=>∃b:Nat,s5=.pointer (some ⟨b,0,none⟩)∧PW X b ⟨tw,tt,tf⟩ wx)
 case first =>
  exact LZ
 case rest =>
  open Z renaming aot→NY in exact MF):P:=h
def aco(h:P:=by
 clear hX ca cb cc fc ZE ka' kd' ko' ma' md';go_upto_region 3 with (fail)
 rw[show ((en:Int)==0)=false from beq_eq_false_iff_ne.2 asB];go_cut [5] from 13 to 18 (fun s5 wx=>∃b:Nat,s5=.pointer (some ⟨b,0,none⟩)∧PW X b ⟨tw,tt,tf⟩ wx)
 case first =>
  exact LZ
 case rest =>
  open Z renaming aou→NY in exact MF):P:=h
def acp(h:P:=by
 clear hX ca cb cc fc ZE ka' kd' ko' ma' md';go_upto_region 3 with (fail)
 rw[show ((en:Int)==0)=false from beq_eq_false_iff_ne.2 asB];go_cut [5] from 13 to 18 (fun s5 wx=>∃b:Nat,s5=.pointer (some ⟨b,0,none⟩)∧PW X b ⟨tw,tt,tf⟩ wx)
 case first =>
  exact LZ
 case rest =>
  open Z renaming aov→NY in exact MF):P:=h
def EL(h:P:=by
 go_enter func43,ntmps43;go_upto_region 1 with (fail)
 obtain⟨W,yW,eW,⟨zW,Yn⟩,cg,ce⟩:=Xu V _ _ 30 47;rw[eW];have g0:=cg 0 (some (.slice p0 n0 c0)) rfl;have g1:=cg 1 (some (.slice p1 n1 c1)) rfl;have g2:=cg 2 (some (.slice p2 n2 c2)) rfl;have g3:=cg 3 (some (.slice p3 n3 c3)) rfl;have g4:=cg 4 (some (.slice p4 n4 c4)) rfl;have g5:=cg 5 (some (.slice p5 n5 c5)) rfl;have g6:=cg 6 (some (.slice p6 n6 c6)) rfl;exact Gm):P:=h
def acq(h:P:=by
 have b0:=ce 0 (some (.int .u8 2)) rfl;open Z renaming apU→Lu in exact Kl):P:=h
def acr(h:P:=by
 have b0:=ce 0 (some (.int .u8 5)) rfl;open Z renaming apV→Lu in exact Kl):P:=h
def acs(h:P:=by
 have b0:=ce 0 (some (.int .u8 sk)) rfl;open Z renaming apW→Lu in exact Kl):P:=h
def wC(h:P:=by
 clear qkO g0 g1 g2 g3 g4 g5 g6;open Z renaming akO→AY in exact tj):P:=h
def acu(h:P:=by
 by_cases VV:R1=0
 case neg =>
  exact sW
 case pos =>
  subst VV;cases tt
  ·have hF:=Zf (show (9:Int)=R by have:=ZR.out;simpa using this)
   exact Kf
  ·exact sX):P:=h
def acv(h:P:=by
 by_cases VV:R1=0
 case neg =>
  exact sW
 case pos =>
  subst VV;cases tt
  case true =>
   have hF:=Zf (show (9:Int)=R by have:=ZR.out;simpa using this);exact Kf
  case false =>
   cases tf
   case false =>
    exact sX
   case true =>
    obtain⟨zz,hzz⟩:=ZG.out;have q3:=Zf (ZK hzz (kF'.out rfl rfl));clear hzz kF';cases F
    ·have hF:=Zf (show (5:Int)=R by have:=ZR.out;simpa using this)
     exact sY
    ·have hF:=Zf (show (0:Int)=R by have:=ZR.out;simpa using this)
     exact sY):P:=h
def wD(h:P:=by
 have TC:=Ih m l i a ha;have a6:=Zf (Y7 i n ZC Yt.out);obtain⟨c0,c1,c2,c3,c4,c5,c6,c7,c8,c9,c10,c11p,c11n,c11c,c12p,c12n,c12c,c13p,c13n,c13c,ea⟩:=YY.out a;open Z renaming aht→Gw in exact E4):P:=h
def OV(h:P:=by
 obtain⟨pa,rfl,hc⟩:=YV.out k a ha;have q1:=Wi.out a (Zo ha);have ZQ:=(P8 may l k a ha).symm.trans hs.out;obtain⟨Z,hZ⟩:=ZB (may a);rw[hZ]at q1 ZQ;exact Ox):P:=h
def acw(h:P:=by
 obtain⟨c0,c1p,c1n,c1c,ea⟩:=YY.out a;exact xT):P:=h
def acx(h:P:=by
 obtain⟨c0,c1,ea⟩:=YY.out a;exact xT):P:=h
def acy(h:P:=by
 open Z renaming wK→Jr in exact I7):P:=h
def acz(h:P:=by
 obtain⟨c0,c1p,c1n,c1c,c2p,c2n,c2c,ea⟩:=YY.out a;rw[ea]at q1;open Z renaming Kn→K7 in exact Iy):P:=h
def acA(h:P:=by
 open Z renaming wK→Jt in exact I8):P:=h
def acC(h:P:=by
 obtain⟨c0,c1,c2,c3,c4,c5,c6,c7,c8p,c8n,c8c,ea⟩:=YY.out a;rw[ea]at q1;open Z renaming Kn→zA in exact pI):P:=h
def acD(h:P:=by
 have d0:=fun y=>(hc.plus y).c0 _ rfl;simp only[Nat.mul_one]at d0;have q1':=Zf q1;have a6:=Zf (Y7 k n ZC Yt.out);clear q1 hZ hc ha hs ;cases Z with
 | false =>
  have ZP:=Zf (show YL may (l.drop (k+1)) (k+1)=R by rw[←ZQ,if_neg asE]);clear ZQ;go_wp2_with (refine (q1'.out _).mono ?_;rintro e w' ⟨rfl,x,rfl⟩);go_roundw
  case rel=>exact⟨k+1,ZC,congrArg (Zz .i64) a6.out,ZP,x,rfl⟩
  case measure=>exact Y9 k n ZC a6.out
 | true =>
  have ZP:=Zf (show (k:Int)=R by rw[←ZQ,if_pos rfl]);clear ZQ;go_wp2_with (refine (q1'.out _).mono ?_;rintro e w' ⟨rfl,x,rfl⟩);go_ret;exact⟨congrArg (fun z=>Zd (Zz .i64 z)) ZP.out,x,rfl⟩):P:=h
def wF(h:P:=by
 have h0:=Zf h0;have hE:=Zf hE;go_enter func186,ntmps186;go_wp2_with fail;obtain⟨W,yy,hW,⟨z,hz⟩,ca,cb,cc⟩:=KB V _ _ _ 45 3 215;open Z renaming akv→GM in exact Dm):P:=h
def acE(h:P:=by
 refine (q0.out _).mono ?_;rintro r w' ⟨rfl,x1,rfl⟩;go_wp2_with (go_at_call 188;with_reducible refine (q1.out _).mono ?_;rintro r w' ⟨rfl,x,rfl⟩);exact Ul):P:=h
def Ij(h:P:=by
 open Z renaming akw→GM in exact Dm):P:=h
def acF(h:P:=by
 clear hW ca;have ZN:=Zf hz;clear hz;go_region_with (first|(go_at_call 123;refine (Bd _).mono ?_;rintro r w' ⟨rfl,hw⟩;obtain⟨x,rfl,hm⟩:=oE (mO W yy) hw;clear hw)|(go_at_call 124;refine (Sh.out _ _ ⟨_,by rw[ZN.out,ZD]⟩ asF).mono ?_;rintro r w' ⟨rfl,x2,rfl⟩));all_goals
  go_wp2;go_ret;exact⟨rfl,asU⟩):P:=h
def acG(h:P:=by
 have q0:=Zf (ZK hz h0.out);have ZN:=Zf hz;clear hW hz ca;exact Cf):P:=h
def acH(h:P:=by
 have q0:=Zf (ZK hz h0.out);have ZN:=Zf hz;clear hW hz ca;refine (q0.out _).mono ?_;rintro r w' ⟨rfl,x1,rfl⟩;go_wp2;go_loopw [4] (fun iv wr=>∃k:Nat,k≤n∧iv=.int .i64 (k:Int)∧Hid ((args.drop k).all Ex.ok=R)∧∃y,wr=plus W y) (fun iv _=>n-(intOf iv).toNat)
 case atStart=>exact⟨0,Zw _,rfl,YM,by first|exact⟨_,rfl⟩|exact Qy W _ _⟩
 case round =>
  obtain⟨k,hk,rfl,hs,y,rfl⟩:=hrel;by_cases ZC:k<n
  ·obtain⟨a,ha⟩:=Yq args k asG
   obtain⟨pa2,rfl,hc⟩:=Wf.out k a ha;open Z renaming ae5→BU in exact vk
  ·exact sE):P:=h
def acJ(h:P:=by
 have q0:=Zf (ZK hz h0.out);have e0:∀y,(plus W y).cell? ⟨pa.block,pa.off+9,none⟩=some (.int .u8 b0):=fun y=>((UI hz hx).plus y).c0 _ rfl;have e1:∀y,(plus W y).cell? ⟨pa.block,pa.off+9+1,none⟩=some (.int .i64 b1):=fun y=>((UI hz hx).plus y).cs 0 _ rfl;have e2:∀y,(plus W y).cell? ⟨pa.block,pa.off+9+2,none⟩=some (.int .u64 b2):=fun y=>((UI hz hx).plus y).cs 1 _ rfl;have e3:∀y,(plus W y).cell? ⟨pa.block,pa.off+9+3,none⟩=some (.int .u64 b3):=fun y=>((UI hz hx).plus y).cs 2 _ rfl;have e4:∀y,(plus W y).cell? ⟨pa.block,pa.off+9+4,none⟩=some (.string b4):=fun y=>((UI hz hx).plus y).cs 3 _ rfl;have e5:∀y,(plus W y).cell? ⟨pa.block,pa.off+9+5,none⟩=some (.string b5):=fun y=>((UI hz hx).plus y).cs 4 _ rfl;have e6:∀y,(plus W y).cell? ⟨pa.block,pa.off+9+6,none⟩=some (.int .i64 b6):=fun y=>((UI hz hx).plus y).cs 5 _ rfl;have e7:∀y,(plus W y).cell? ⟨pa.block,pa.off+9+7,none⟩=some (.int .i64 b7):=fun y=>((UI hz hx).plus y).cs 6 _ rfl;have e8:∀y,(plus W y).cell? ⟨pa.block,pa.off+9+8,none⟩=some (.slice b8p b8n b8c):=fun y=>((UI hz hx).plus y).cs 7 _ rfl;have q1:=Zf (ZK hz h1);have h12:(1:Int)<(2:Int):=asE;have ZN:=Zf hz;clear hW hz ca;refine (q0.out _).mono ?_;rintro r w' ⟨rfl,x1,rfl⟩;clear h1 hx;exact G8):P:=h
def EM(h:P:=by
 have cx0:=fun y a=>YG (c0_0 y) a;have cx1:=fun y a=>YG (c0_1 y) a;have cx2:=fun y a=>YG (c0_2 y) a;have cx3:=fun y a=>YG (c0_3 y) a;have cx4:=fun y a=>YG (c0_4 y) a;have cx5:=fun y a=>YG (c0_5 y) a;have cx6:=fun y a=>YG (c0_6 y) a;have cx7:=fun y a=>YG (c0_7 y) a;have cx8:=fun y a=>YG (c0_8 y) a;have ZN:=Zf hz;exact Gn):P:=h
def acK(h:P:=by
 clear hW hz cb0 cb1;exact rO):P:=h
def acL(h:P:=by
 clear hW hz cb0;exact rO):P:=h
def acM(h:P:=by
 clear hW hz cb0;refine (q0c.out _).mono ?_;rintro r w' ⟨rfl,x1,rfl⟩;go_wp2_with (first|(go_at_call 104;with_reducible refine (q1c.out _).mono ?_;rintro r w' ⟨rfl,x,rfl⟩));exact rN):P:=h
def EN(h:P:=by
 refine wp_region_held_drew (S:=SN cb eb _ _ _ _ _ _ _ _ _ _ _ _ _ _ _ _) asC (by obtain⟨z,hz⟩:=xF (EB (V:=U) ⟨#[],U.drawn⟩);rw[Yk]at hz;rw[hz];exact HSN.out.plus z) (fun hHeld=>?_);have hp:∃z,U.drew=plus U z:=by have q:=xF (EB (V:=U) ⟨#[],U.drawn⟩);rwa [Yk]at q
 obtain⟨U0,TL⟩:=ZB U.drew;rw[TL]at hHeld hp ⊢;clear TL;exact Gp):P:=h
def acN(h:P:=by
 refine wpAnyH_take (i:=0) (v:=?vc0) rfl asC asC asC (fun _ _ _ h=>h) (Or.inl ⟨asH,?hc0⟩) hHeld ?rc0
 case hc0 =>
  rintro W ⟨c0,c1,c2,c3,c4,c5,c6,e0,e1,e2,e3,e4,e5,e6,e7,e8⟩;go_simp;try with_reducible rfl
 simp only[Act.put,Zp,Zr,Zq];refine wpAnyH_take (i:=1) (v:=?vc1) rfl asC asC asC (fun _ _ _ h=>h) (Or.inl ⟨asH,?hc1⟩) hHeld ?rc1
 case hc1 =>
  rintro W ⟨c0,c1,c2,c3,c4,c5,c6,e0,e1,e2,e3,e4,e5,e6,e7,e8⟩;go_simp;try with_reducible rfl
 simp only[Act.put,Zp,Zr,Zq];refine wpAnyH_take (i:=2) (v:=?vc2) rfl asC asC asC (fun _ _ _ h=>h) (Or.inl ⟨asH,?hc2⟩) hHeld ?rc2
 case hc2 =>
  rintro W ⟨c0,c1,c2,c3,c4,c5,c6,e0,e1,e2,e3,e4,e5,e6,e7,e8⟩;go_simp;try with_reducible rfl
 simp only[Act.put,Zp,Zr,Zq];refine wpAnyH_take (i:=3) (v:=?vc3) rfl asC asC asC (fun _ _ _ h=>h) (Or.inl ⟨asH,?hc3⟩) hHeld ?rc3
 case hc3 =>
  rintro W ⟨c0,c1,c2,c3,c4,c5,c6,e0,e1,e2,e3,e4,e5,e6,e7,e8⟩;go_simp;try with_reducible rfl
 simp only[Act.put,Zp,Zr,Zq];refine wpAnyH_take (i:=5) (v:=?vc5) rfl asC asC asC (fun _ _ _ h=>h) (Or.inl ⟨asH,?hc5⟩) hHeld ?rc5
 case hc5 =>
  rintro W ⟨c0,c1,c2,c3,c4,c5,c6,e0,e1,e2,e3,e4,e5,e6,e7,e8⟩;go_simp;try with_reducible rfl
 simp only[Act.put,Zp,Zr,Zq];refine wpAnyH_take (i:=6) (v:=?vc6) rfl asC asC asC (fun _ _ _ h=>h) (Or.inl ⟨asH,?hc6⟩) hHeld ?rc6
 case hc6 =>
  rintro W ⟨c0,c1,c2,c3,c4,c5,c6,e0,e1,e2,e3,e4,e5,e6,e7,e8⟩;go_simp;try with_reducible rfl
 simp only[Act.put,Zp,Zr,Zq];refine wpAnyH_take (i:=7) (v:=?vc7) rfl asC asC asC (fun _ _ _ h=>h) (Or.inl ⟨asH,?hc7⟩) hHeld ?rc7
 case hc7 =>
  rintro W ⟨c0,c1,c2,c3,c4,c5,c6,e0,e1,e2,e3,e4,e5,e6,e7,e8⟩;go_simp;try with_reducible rfl
 simp only[Act.put,Zp,Zr,Zq];refine wpAnyH_take (i:=8) (v:=?vc8) rfl asC asC asC (fun _ _ _ h=>h) (Or.inl ⟨asH,?hc8⟩) hHeld ?rc8
 case hc8 =>
  rintro W ⟨c0,c1,c2,c3,c4,c5,c6,e0,e1,e2,e3,e4,e5,e6,e7,e8⟩;go_simp;try with_reducible rfl
 simp only[Act.put,Zp,Zr,Zq];refine wpAnyH_take (i:=9) (v:=?vc9) rfl asC asC asC (fun _ _ _ h=>h) (Or.inl ⟨asH,?hc9⟩) hHeld ?rc9
 case hc9 =>
  rintro W ⟨c0,c1,c2,c3,c4,c5,c6,e0,e1,e2,e3,e4,e5,e6,e7,e8⟩;go_simp;try with_reducible rfl
 simp only[Act.put,Zp,Zr,Zq];refine wpAnyH_take (i:=10) (v:=?vc10) rfl asC asC asC (fun _ _ _ h=>h) (Or.inl ⟨asH,?hc10⟩) hHeld ?rc10
 case hc10 =>
  rintro W ⟨c0,c1,c2,c3,c4,c5,c6,e0,e1,e2,e3,e4,e5,e6,e7,e8⟩;go_simp;try with_reducible rfl
 open Z renaming alA→G0 in exact Dz):P:=h
def acO(h:P:=by
 refine wpAnyH_take (i:=0) (v:=?vb0) rfl asC asC asC (fun _ _ _ h=>h) (Or.inl ⟨asH,?hb0⟩) hHeld ?rb0
 case hb0 =>
  rintro W ⟨c0,c1,c2,c3,c4,c5,c6,e0,e1,e2,e3,e4,e5,e6,e7,e8⟩;go_simp;try with_reducible rfl
 simp only[Act.put,Zp,Zr,Zq];refine wpAnyH_take (i:=1) (v:=?vb1) rfl asC asC asC (fun _ _ _ h=>h) (Or.inl ⟨asH,?hb1⟩) hHeld ?rb1
 case hb1 =>
  rintro W ⟨c0,c1,c2,c3,c4,c5,c6,e0,e1,e2,e3,e4,e5,e6,e7,e8⟩;go_simp;try with_reducible rfl
 simp only[Act.put,Zp,Zr,Zq];refine wpAnyH_take (i:=2) (v:=?vb2) rfl asC asC asC (fun _ _ _ h=>h) (Or.inl ⟨asH,?hb2⟩) hHeld ?rb2
 case hb2 =>
  rintro W ⟨c0,c1,c2,c3,c4,c5,c6,e0,e1,e2,e3,e4,e5,e6,e7,e8⟩;go_simp;try with_reducible rfl
 simp only[Act.put,Zp,Zr,Zq];refine wpAnyH_take (i:=3) (v:=?vb3) rfl asC asC asC (fun _ _ _ h=>h) (Or.inl ⟨asH,?hb3⟩) hHeld ?rb3
 case hb3 =>
  rintro W ⟨c0,c1,c2,c3,c4,c5,c6,e0,e1,e2,e3,e4,e5,e6,e7,e8⟩;go_simp;try with_reducible rfl
 simp only[Act.put,Zp,Zr,Zq];refine wpAnyH_take (i:=5) (v:=?vb5) rfl asC asC asC (fun _ _ _ h=>h) (Or.inl ⟨asH,?hb5⟩) hHeld ?rb5
 case hb5 =>
  rintro W ⟨c0,c1,c2,c3,c4,c5,c6,e0,e1,e2,e3,e4,e5,e6,e7,e8⟩;go_simp;try with_reducible rfl
 simp only[Act.put,Zp,Zr,Zq];refine wpAnyH_take (i:=6) (v:=?vb6) rfl asC asC asC (fun _ _ _ h=>h) (Or.inl ⟨asH,?hb6⟩) hHeld ?rb6
 case hb6 =>
  rintro W ⟨c0,c1,c2,c3,c4,c5,c6,e0,e1,e2,e3,e4,e5,e6,e7,e8⟩;go_simp;try with_reducible rfl
 simp only[Act.put,Zp,Zr,Zq];refine wpAnyH_take (i:=7) (v:=?vb7) rfl asC asC asC (fun _ _ _ h=>h) (Or.inl ⟨asH,?hb7⟩) hHeld ?rb7
 case hb7 =>
  rintro W ⟨c0,c1,c2,c3,c4,c5,c6,e0,e1,e2,e3,e4,e5,e6,e7,e8⟩;go_simp;try with_reducible rfl
 simp only[Act.put,Zp,Zr,Zq];refine wpAnyH_take (i:=8) (v:=?vb8) rfl asC asC asC (fun _ _ _ h=>h) (Or.inl ⟨asH,?hb8⟩) hHeld ?rb8
 case hb8 =>
  rintro W ⟨c0,c1,c2,c3,c4,c5,c6,e0,e1,e2,e3,e4,e5,e6,e7,e8⟩;go_simp;try with_reducible rfl
 simp only[Act.put,Zp,Zr,Zq];refine wpAnyH_take (i:=9) (v:=?vb9) rfl asC asC asC (fun _ _ _ h=>h) (Or.inl ⟨asH,?hb9⟩) hHeld ?rb9
 case hb9 =>
  rintro W ⟨c0,c1,c2,c3,c4,c5,c6,e0,e1,e2,e3,e4,e5,e6,e7,e8⟩;go_simp;try with_reducible rfl
 simp only[Act.put,Zp,Zr,Zq];refine wpAnyH_take (i:=10) (v:=?vb10) rfl asC asC asC (fun _ _ _ h=>h) (Or.inl ⟨asH,?hb10⟩) hHeld ?rb10
 case hb10 =>
  rintro W ⟨c0,c1,c2,c3,c4,c5,c6,e0,e1,e2,e3,e4,e5,e6,e7,e8⟩;go_simp;try with_reducible rfl
 open Z renaming alB→G0 in exact Dz):P:=h
def acP(h:P:=by
 refine wpAnyH_take (i:=0) (v:=?va0) rfl asC asC asC (fun _ _ _ h=>h) (Or.inl ⟨asH,?ha0⟩) hHeld ?ra0
 case ha0 =>
  rintro W ⟨c0,c1,c2,c3,c4,c5,c6,e0,e1,e2,e3,e4,e5,e6,e7,e8⟩;go_simp;try with_reducible rfl
 simp only[Act.put,Zp,Zr,Zq];refine wpAnyH_take (i:=1) (v:=?va1) rfl asC asC asC (fun _ _ _ h=>h) (Or.inl ⟨asH,?ha1⟩) hHeld ?ra1
 case ha1 =>
  rintro W ⟨c0,c1,c2,c3,c4,c5,c6,e0,e1,e2,e3,e4,e5,e6,e7,e8⟩;go_simp;try with_reducible rfl
 simp only[Act.put,Zp,Zr,Zq];refine wpAnyH_take (i:=2) (v:=?va2) rfl asC asC asC (fun _ _ _ h=>h) (Or.inl ⟨asH,?ha2⟩) hHeld ?ra2
 case ha2 =>
  rintro W ⟨c0,c1,c2,c3,c4,c5,c6,e0,e1,e2,e3,e4,e5,e6,e7,e8⟩;go_simp;try with_reducible rfl
 simp only[Act.put,Zp,Zr,Zq];refine wpAnyH_take (i:=3) (v:=?va3) rfl asC asC asC (fun _ _ _ h=>h) (Or.inl ⟨asH,?ha3⟩) hHeld ?ra3
 case ha3 =>
  rintro W ⟨c0,c1,c2,c3,c4,c5,c6,e0,e1,e2,e3,e4,e5,e6,e7,e8⟩;go_simp;try with_reducible rfl
 simp only[Act.put,Zp,Zr,Zq];refine wpAnyH_take (i:=5) (v:=?va5) rfl asC asC asC (fun _ _ _ h=>h) (Or.inl ⟨asH,?ha5⟩) hHeld ?ra5
 case ha5 =>
  rintro W ⟨c0,c1,c2,c3,c4,c5,c6,e0,e1,e2,e3,e4,e5,e6,e7,e8⟩;go_simp;try with_reducible rfl
 simp only[Act.put,Zp,Zr,Zq];refine wpAnyH_take (i:=6) (v:=?va6) rfl asC asC asC (fun _ _ _ h=>h) (Or.inl ⟨asH,?ha6⟩) hHeld ?ra6
 case ha6 =>
  rintro W ⟨c0,c1,c2,c3,c4,c5,c6,e0,e1,e2,e3,e4,e5,e6,e7,e8⟩;go_simp;try with_reducible rfl
 simp only[Act.put,Zp,Zr,Zq];refine wpAnyH_take (i:=7) (v:=?va7) rfl asC asC asC (fun _ _ _ h=>h) (Or.inl ⟨asH,?ha7⟩) hHeld ?ra7
 case ha7 =>
  rintro W ⟨c0,c1,c2,c3,c4,c5,c6,e0,e1,e2,e3,e4,e5,e6,e7,e8⟩;go_simp;try with_reducible rfl
 simp only[Act.put,Zp,Zr,Zq];refine wpAnyH_take (i:=8) (v:=?va8) rfl asC asC asC (fun _ _ _ h=>h) (Or.inl ⟨asH,?ha8⟩) hHeld ?ra8
 case ha8 =>
  rintro W ⟨c0,c1,c2,c3,c4,c5,c6,e0,e1,e2,e3,e4,e5,e6,e7,e8⟩;go_simp;try with_reducible rfl
 simp only[Act.put,Zp,Zr,Zq];refine wpAnyH_take (i:=9) (v:=?va9) rfl asC asC asC (fun _ _ _ h=>h) (Or.inl ⟨asH,?ha9⟩) hHeld ?ra9
 case ha9 =>
  rintro W ⟨c0,c1,c2,c3,c4,c5,c6,e0,e1,e2,e3,e4,e5,e6,e7,e8⟩;go_simp;try with_reducible rfl
 simp only[Act.put,Zp,Zr,Zq];refine wpAnyH_take (i:=10) (v:=?va10) rfl asC asC asC (fun _ _ _ h=>h) (Or.inl ⟨asH,?ha10⟩) hHeld ?ra10
 case ha10 =>
  rintro W ⟨c0,c1,c2,c3,c4,c5,c6,e0,e1,e2,e3,e4,e5,e6,e7,e8⟩;go_simp;try with_reducible rfl
 open Z renaming alC→G0 in exact Dz):P:=h
def wH(h:P:=by
 refine Za rfl (fun K hK=>?_) AllReadyH.nil;go_simp;refine hK.out _ _ (So hHeld _) (fun RC=>?_);clear hK K;have hN:=yb hHeld;obtain⟨b,hb⟩:=ZB U0.heap.size;obtain⟨U2,hU2⟩:=ZB (U0.alloc (.cells #[.int .i64 0,.bool false,.bool false] 75));rw[hb,hU2]at hN;rw[hb,hU2];clear hb hU2;clear RC;have RC:=hN.rb.up;refine wpAnyH_ready (rs:=[5]) asC asD ?_;refine Za rfl (fun K hK=>?_) AllReadyH.nil;go_simp;refine (qka.out _ RC).mono ?_;rintro r w' ⟨rfl,x1,rfl⟩;refine hK.out _ _ (Uj RC x1) (fun Gg=>?_);clear hK K Gg;replace hN:=hN.plus x1;exact BK):P:=h
def LR(h:P:=by
 congr 1
 revert this;generalize (decide ((0:Int)<(thn.length:Int))||decide ((0:Int)<(els.length:Int)))=B;generalize (((thn.length:Int)==0)&&((els.length:Int)==0))=L;generalize (St.mayB n thn&&St.mayB n els)=M;exact Lb):P:=h
def acQ(h:P:=by
 generalize Ex.may 16 _=x;generalize YK nm=y;generalize ((hd.toList==[])||YK hd)=z;exact DV):P:=h
def acR(h:P:=by
 generalize Ex.same _ Vl=x;generalize YK nm=y;exact qQ):P:=h
def acS(h:P:=by
 generalize Ex.same _ Vl=x;exact qR):P:=h
def acT(h:P:=by
 generalize Ex.may 16 _=x;exact qR):P:=h
def acU(h:P:=by
 generalize Ex.same _ Vl=x;generalize YK hd=y;generalize (nm.toList==[])=z;exact DV):P:=h
def wI(h:P:=by
 go_enter func3,ntmps3;go_upto_region 1 with (fail)
 obtain⟨X,Y0,eX,⟨zX,ZE⟩,cp⟩:=YO V _ 30;rw[eX];have g0:=cp 0 (some (.slice p.headers.p p.headers.l.length p.headers.cap)) rfl;have g1:=cp 1 (some (.slice p.metas.p p.metas.l.length p.metas.cap)) rfl;have g2:=cp 2 (some (.slice p.states.p p.states.l.length p.states.cap)) rfl;have g3:=cp 3 (some (.slice p.actions.p p.actions.l.length p.actions.cap)) rfl;have g4:=cp 4 (some (.slice p.tables.p p.tables.l.length p.tables.cap)) rfl;have g5:=cp 5 (some (.slice p.control.p p.control.l.length p.control.cap)) rfl;have g6:=cp 6 (some (.slice p.emit.p p.emit.l.length p.emit.cap)) rfl;have kG:=Zf (ni ZL ZE);exact BL):P:=h
def acV(h:P:=by
 have kK:=Zf (zH X);have ZN:=Zf ZE;clear eX cp ZE ZL ZF hz hg;go_wp2_with (first|(go_at_call 5;with_reducible refine (kG.out _).mono ?_;rintro r w' ⟨rfl,x,rfl⟩)|(go_at_call 6;with_reducible refine (kK.out _).mono ?_;rintro r w' ⟨rfl,x,rfl⟩));exact Ul):P:=h
def acX(h:P:=by
 have kC:=Zf (ZK ZE ZT);have kR:=Zf (ZK ZE Ys);have kK:=Zf (zH X);have ZN:=Zf ZE;clear eX cp ZE ZL ZT Ys ZF hz hg hN hE;go_wp2_with (first|(go_at_call 5;with_reducible refine (kG.out _).mono ?_;rintro r w' ⟨rfl,x,rfl⟩)|(go_at_call 7;with_reducible refine (kC.out _).mono ?_;rintro r w' ⟨rfl,x,rfl⟩)|(go_at_call 8;with_reducible refine (kR.out _).mono ?_;rintro r w' ⟨rfl,x,rfl⟩)|(go_at_call 6;with_reducible refine (kK.out _).mono ?_;rintro r w' ⟨rfl,x,rfl⟩));exact Ul):P:=h
def Xz(h:P:=by
 have hF:=Zf (show (false)=R by first|exact hR|(rw[←hR];simp));exact Xy):P:=h
def acY(h:P:=by
 clear hR;clear h1;have h0:=Zf h0;go_enter func56,ntmps56;go_wp2_with fail;obtain⟨W,yy,hW,⟨z,hz⟩,cb0⟩:=YO V _ 87;exact pA):P:=h
def acZ(h:P:=by
 clear hR;clear h1 h2 h3 h4;have h0:=Zf h0;open Z renaming apM→N5 in exact MH):P:=h
def ac0(h:P:=by
 clear hR;clear h2 h3 h4;have h0:=Zf h0;have h1:=Zf h1;open Z renaming apN→N5 in exact MH):P:=h
def ac1(h:P:=by
 clear hR;clear h3 h4;have h0:=Zf h0;have h1:=Zf h1;have h2:=Zf h2;open Z renaming apO→N5 in exact MH):P:=h
def ac2(h:P:=by
 clear hR;clear h4;have h0:=Zf h0;have h1:=Zf h1;have h2:=Zf h2;have h3:=Zf h3;open Z renaming apP→N5 in exact MH):P:=h
def ac3(h:P:=by
 clear hR;clear h1;have h0:=Zf h0;go_enter func54,ntmps54;go_wp2_with fail;obtain⟨W,yy,hW,⟨z,hz⟩,cb0⟩:=YO V _ 66;exact pA):P:=h
def ac4(h:P:=by
 clear hR;clear h1;have h0:=Zf h0;go_enter func224,ntmps224;go_wp2_with fail;obtain⟨W,yy,hW,⟨z,hz⟩,cb0,cb1⟩:=Xu V _ _ 219 162;rw[hW];have c0_0:=cb0 0 _ rfl;have c0_1:=cb0 1 _ rfl;open Z renaming alx→GZ in exact Dx):P:=h
def ac5(h:P:=by
 clear hR;clear h1;have h0:=Zf h0;go_enter func193,ntmps193;go_wp2_with fail;obtain⟨W,yy,hW,⟨z,hz⟩,cb0,cb1⟩:=Xu V _ _ 117 70;exact xV):P:=h
def ac6(h:P:=by
 clear hR;clear h1 h2;have h0:=Zf h0;go_enter func58,ntmps58;exact wh):P:=h
def ac7(h:P:=by
 clear hR;clear h2;have h0:=Zf h0;have h1:=Zf h1;go_enter func58,ntmps58;go_wp2_with fail;obtain⟨W,yy,hW,⟨z,hz⟩,cb0,cb1⟩:=Xu V _ _ 117 61;open Z renaming arD→N8 in exact ML):P:=h
def ac8(h:P:=by
 clear hR;clear h1 h2;have h0:=Zf h0;go_enter func60,ntmps60;go_wp2_with fail;obtain⟨W,yy,hW,⟨z,hz⟩,cb0,cb1⟩:=Xu V _ _ 117 72;exact xV):P:=h
def ac9(h:P:=by
 clear hR;clear h2;have h0:=Zf h0;have h1:=Zf h1;go_enter func60,ntmps60;go_wp2_with fail;obtain⟨W,yy,hW,⟨z,hz⟩,cb0,cb1⟩:=Xu V _ _ 117 72;open Z renaming agZ→Lk in exact L5):P:=h
def ada(h:P:=by
 clear hR;clear h1 h2 h3 h4;have h0:=Zf h0;open Z renaming we→Lo in exact L9):P:=h
def adb(h:P:=by
 clear hR;clear h2 h3 h4;have h0:=Zf h0;have h1:=Zf h1;open Z renaming ajZ→Lo in exact L9):P:=h
def adc(h:P:=by
 clear hR;clear h3 h4;have h0:=Zf h0;have h1:=Zf h1;have h2:=Zf h2;open Z renaming aj0→Lo in exact L9):P:=h
def ade(h:P:=by
 clear hR;clear h4;have h0:=Zf h0;have h1:=Zf h1;have h2:=Zf h2;have h3:=Zf h3;open Z renaming aj1→Lo in exact L9):P:=h
def adf(h:P:=by
 clear hR;clear h1;have h0:=Zf h0;open Z renaming alr→zd in exact tJ):P:=h
def adg(h:P:=by
 clear hR;clear h1 h2;have h0:=Zf h0;go_enter func139,ntmps139;go_wp2_with fail;open Z renaming aoV→Qv in exact QF):P:=h
def adh(h:P:=by
 clear hR;clear h2;have h0:=Zf h0;have h1:=Zf h1;go_enter func139,ntmps139;go_wp2_with fail;open Z renaming aoW→Qv in exact QF):P:=h
def adi(h:P:=by
 clear hR;clear q2c q3c;exact ql):P:=h
def adj(h:P:=by
 clear hR;clear h1;exact qL):P:=h
def adk(h:P:=by
 clear hR;clear h1 h2 h3;have h0:=Zf h0;open Z renaming MJ→Ju in exact Hs):P:=h
def adl(h:P:=by
 clear hR;clear h2 h3;have h0:=Zf h0;have h1:=Zf h1;open Z renaming pP→Ju in exact Hs):P:=h
def adm(h:P:=by
 clear hR;clear h3;have h0:=Zf h0;have h1:=Zf h1;have h2:=Zf h2;open Z renaming aoT→Ju in exact Hs):P:=h
def adn(h:P:=by
 clear hR;go_enter func220,ntmps220;exact Hq):P:=h
def ado(h:P:=by
 clear hR;go_enter func107,ntmps107;exact MD):P:=h
def OW(h:P:=by
 obtain⟨E,hE⟩:=ZB ((a3 !=0)||(decide ((0:Int)<(a11n:Int))||!s0));obtain⟨B,hB⟩:=ZB (decide ((0:Int)<(a12n:Int))||decide ((0:Int)<(a13n:Int)));exact Oy):P:=h
def adp(h:P:=by
 obtain⟨R,hR⟩:=ZB ((!B)&&((!E)&&((a1.toList==[])&&(a2.toList==[]))));rw[hE,hB,hR];have Wc:=Zf hE;have XI:=Zf hB;have ZR:=Zf hR;clear hE hB hR;have h0:=Zf h0;go_enter func173,ntmps173;go_upto_region 1 with (fail)
 open Z renaming aoX→Qv in exact QF):P:=h
def adq(h:P:=by
 obtain⟨R,hR⟩:=ZB (false);rw[hR];have Wc:=Zf hE;have XI:=Zf hB;have ZR:=Zf hR;clear hE hB hR;have h0:=Zf h0;go_enter func173,ntmps173;go_upto_region 1 with (fail)
 open Z renaming aoY→Qv in exact QF):P:=h
def adr(h:P:=by
 obtain⟨R,hR⟩:=ZB ((!B)&&(s1&&(((a1.toList==[])||s2)&&s3)));rw[hB,hR];open Z renaming akY→A6 in exact tA):P:=h
def ads(h:P:=by
 obtain⟨R,hR⟩:=ZB ((a2.toList==[])&&((a1.toList==[])&&(s1&&(s2&&s3))));rw[hR];open Z renaming akZ→A6 in exact tA):P:=h
def adt(h:P:=by
 obtain⟨R,hR⟩:=ZB ((!B)&&((a1.toList==[])&&((a2.toList==[])&&s1)));rw[hB,hR];open Z renaming aiH→GA in exact E8):P:=h
def adu(h:P:=by
 obtain⟨R,hR⟩:=ZB ((!B)&&((!E)&&((a1.toList==[])&&s1)));rw[hE,hB,hR];open Z renaming aiI→GA in exact E8):P:=h
def adv(h:P:=by
 obtain⟨R,hR⟩:=ZB ((!B)&&((!E)&&((a2.toList==[])&&s1)));rw[hE,hB,hR];open Z renaming aiJ→GA in exact E8):P:=h
def wO(h:P:=by
 go_upto_region 1 with (fail)
 obtain⟨W,yy,hW,⟨z,ZG⟩,cp,cs⟩:=Xu V _ _ 30 47;open Z renaming akI→GS in exact Dr):P:=h
def adw(h:P:=by
 have ZY:=Zf ZG;clear hW ZG cp cs ZL' ZT' Ys';replace hR:=hR.out;by_cases e:(hd.toList==([]:List UInt8))=true
 ·rw[if_pos e]at hR
  replace hR:=Zf hR;have e2:hd.toList.isEmpty=true:=ate;clear qk1 qk2;go_wp2_with (first|(go_at_call 84;with_reducible refine (qk3.out _).mono ?_;rintro r w' ⟨rfl,x,rfl⟩));exact QE
 ·have e1:(hd.toList==([]:List UInt8))=false:=by simpa using e
  rw[if_neg e]at hR;replace hR:=Zf hR;have e2:hd.toList.isEmpty=false:=ate;clear e qk3;go_upto_region 3 with (fail)
  refine Wz asC asC ?_;repeat (go_big_quiet_step (first|(with_reducible exact qk1.out _)|(with_reducible exact qk2.out _)))
  refine wpQuiet_nil ?_;rintro _ ⟨y2,rfl⟩;exact EW):P:=h
def adx(h:P:=by
 have qk4:=Zf (ZK ZG YQ'.out);have qk5:=Zf (ZK ZG WF'.out);have qk6:=Zf (ZK ZG Vz'.out);have qkN:=Zf (ZK ZG kN'.out);have ZY:=Zf ZG;clear hW ZG cp cs ZL' ZT' Ys' YQ' WF' Vz' kN';by_cases o1:kd=1
 ·have hR:=g1.out o1
  clear g0 g1 g3 g6;subst o1;clear qk3 qk4 qk5 qk6;by_cases i1:I1=-1
  ·subst i1
   rw[if_pos rfl]at hR;rw[if_pos rfl]at qk2;replace hR:=Zf hR;go_wp2_with (first|(go_at_call 155;with_reducible refine (qk1.out _).mono ?_;rintro r w' ⟨rfl,x,rfl⟩)|(go_at_call 86;with_reducible refine (qk2.out _).mono ?_;rintro r w' ⟨rfl,x,rfl⟩));exact QE
  ·rw[if_neg i1]at hR
   rw[if_neg i1]at qk2;replace hR:=Zf hR;clear i1;go_wp2_with (first|(go_at_call 155;with_reducible refine (qk1.out _).mono ?_;rintro r w' ⟨rfl,x,rfl⟩)|(go_at_call 86;with_reducible refine (qk2.out _).mono ?_;rintro r w' ⟨rfl,x,rfl⟩)|(go_at_call 94;with_reducible refine (qkN.out _).mono ?_;rintro r w' ⟨rfl,x,rfl⟩));exact QE
 have n1:(kd==1)=false:=by simpa using o1
 by_cases o3:kd=3
 ·have hR:=g3.out o3
  clear g0 g1 g3 g6;subst o3;clear qk1 qk2 qk5 qk6 qkN;by_cases a1:act=-1
  ·subst a1
   rw[if_pos rfl]at hR;replace hR:=Zf hR;clear o1;go_wp2_with (first|(go_at_call 93;with_reducible refine (qk3.out _).mono ?_;rintro r w' ⟨rfl,x,rfl⟩)|(go_at_call 86;with_reducible refine (qk4.out _).mono ?_;rintro r w' ⟨rfl,x,rfl⟩));exact QE
  ·rw[if_neg a1]at hR
   replace hR:=Zf hR;have a2:(act !=-1)=true:=by simpa using a1
   clear o1 a1 qk3 qk4;go_wp2_with (fail);exact QE
 have n3:(kd==3)=false:=ato;by_cases o6:kd=6
 ·have hR:=Zf (g6.out (.inl o6))
  clear g0 g1 g3 g6;subst o6;clear qk1 qk2 qk3 qk4 qkN o1 o3;exact vL
 have n6:(kd==6)=false:=atp;by_cases o7:kd=7
 ·have hR:=Zf (g6.out (.inr o7))
  clear g0 g1 g3 g6;subst o7;clear qk1 qk2 qk3 qk4 qkN o1 o3 o6;exact vL
 have n7:(kd==7)=false:=by simpa using o7
 have hR:=Zf (g0.out o1 o3 o6 o7);clear g0 g1 g3 g6 qk1 qk2 qk3 qk4 qk5 qk6 o1 o3 o6 o7;go_wp2_with (first|(go_at_call 94;with_reducible refine (qkN.out _).mono ?_;rintro r w' ⟨rfl,x,rfl⟩));exact QE):P:=h
def LS(h:P:=by
 open Z renaming aly→GZ in exact Dx):P:=h
def ady(h:P:=by
 have q0c:=Zf (ZK hz h0.out);have q1c:=Zf (ZK hz h1.out);open Z renaming ahs→RQ in exact Qb):P:=h
def adz(h:P:=by
 have c1_7:=cb1 7 _ rfl;have c1_8:=cb1 8 _ rfl;have c1_9:=cb1 9 _ rfl;exact MJ):P:=h
def adA(h:P:=by
 open Z renaming pP→AX in exact th):P:=h
def adB(h:P:=by
 have c1_7:=cb1 7 _ rfl;exact N5):P:=h
def adC(h:P:=by
 have c1_7:=cb1 7 _ rfl;have c1_8:=cb1 8 _ rfl;have q8c:=Zf (ZK hz h8.out);have Yv:=fun x=>ZS (Tu hz hc) x;have ZN:=Zf hz;clear hW hz cb0 cb1;refine (q8c.out _).mono ?_;exact Dk):P:=h
def LU(h:P:=by
 have d0:=fun y=>(Yv.plus y).c0 _ rfl;have d1:=fun y=>(Yv.plus y).cs 0 _ rfl;have d2:=fun y=>(Yv.plus y).cs 1 _ rfl;exact Ld):P:=h
def adD(h:P:=by
 open Z renaming alT→Jp in exact I6):P:=h
def adE(h:P:=by
 open Z renaming akD→AV in exact uZ):P:=h
def adF(h:P:=by
 clear Yv;clear hzE0 YA Xg VP Yo;rw[←Yk Ur];have Sg:¬((i:Int)<0):=asB;go_wp2_with (first|(go_at_call 119;with_reducible refine (qh1.out _).mono ?_;rintro r w' ⟨rfl,x,rfl⟩)|(go_at_call 177;with_reducible refine (qh2.out _).mono ?_;rintro r w' ⟨rfl,x,rfl⟩)|(go_at_call 206;with_reducible refine (qh3.out _).mono ?_;rintro r w' ⟨rfl,x,rfl⟩));exact sm):P:=h
def adG(h:P:=by
 have d3:=fun y=>(Yv.plus y).cs 2 _ rfl;have d4:=fun y=>(Yv.plus y).cs 3 _ rfl;exact Rk):P:=h
def adH(h:P:=by
 have d3:=fun y=>(Yv.plus y).cs 2 _ rfl;have d4:=fun y=>(Yv.plus y).cs 3 _ rfl;exact NJ):P:=h
def wP(h:P:=by
 refine (qka.out _ hHeld).mono ?_;rintro r w' ⟨rfl,x1,rfl⟩;refine hK.out _ _ (Uj hHeld x1) (fun RC=>?_);clear hK K hHeld;obtain⟨U1,hU1⟩:=ZB (plus U0 x1);rw[hU1]at RC ⊢;clear hU1;refine wpAnyH_ready (rs:=[6]) asC asD ?_;refine Za rfl (fun K hK=>?_) AllReadyH.nil;go_simp;refine hK.out _ _ (So RC _) (fun Gg=>?_);clear hK K Gg;have hN:=yb RC;obtain⟨b,hb⟩:=ZB U1.heap.size;obtain⟨U2,hU2⟩:=ZB (U1.alloc (.cells #[.int .i64 0,.bool false,.bool false] 75));rw[hb,hU2]at hN;rw[hb,hU2];clear hb hU2;exact BN):P:=h
def wQ(h:P:=by
 clear hb h1 h2 hc hd hy h0 hJ;refine callsIn_of_wp func146 rfl trivial ?_ rfl;simp only[ntmps146,List.size_toArray,Zk,Zl,Nat.reduceAdd,Nat.reduceSub,Array.replicate_succ,Array.replicate_zero,List.push_toArray,List.append_toArray,List.nil_append,List.cons_append];obtain⟨fn,tmps,assign,body,hy1,hR⟩:=hy'.out (.cells #[.int .u8 ZU,.string ZI,.string ZJ,.int .u8 Ye,.int .i64 Yd,.int .u64 Z9,.int .u64 Ya,.string Z5,.string Z6,.int .i64 Z8,.int .i64 Yb,.slice Z7 Yf Z4,.slice Z0 ZW ZZ,.slice Z3 ZX Z1] 47);have ZR:=Zf hR;clear hR hy';gi_wp2;refine⟨rfl,(F4 ZR.out).mono ?_⟩;exact BO):P:=h
def adI(h:P:=by
 rintro e w1 (⟨rfl,hJ1,hk1⟩|⟨rfl,hx⟩)
 ·have Wp:=(Kq.alloc S W _).trans hk1
  have e4:=TH Yi.out _ _ hk1 12 _ rfl;have c1:=Yo.out _ Wp;have d1:=hd'.out _ Wp;have q1:=Zf (YA.out w1 Wp hJ1);have hk1':=Zf hk1;clear c0 d0 hy1 hk1 Wp hJ1;gi_wp2;refine⟨trivial,rfl,CallsIn.mono q1.out ?_⟩;rintro e w2 (⟨rfl,Xc,Yp⟩|⟨rfl,hx⟩)
  ·have VI:=hk1'.out.trans Yp
   have Wh:=(Kq.alloc S W _).trans VI;have e5:=TH Yi.out _ _ VI 13 _ rfl;exact um
  ·exact Qc
 ·exact uq):P:=h
def adJ(h:P:=by
 rintro e w1 (⟨rfl,hJ1,hk1⟩|⟨rfl,hx⟩)
 ·have Wp:=(Kr.alloc S W _).trans hk1
  have e4:=QO Yi.out _ _ hk1 12 _ rfl;have c1:=Yo.out _ Wp;have d1:=hd'.out _ Wp;have q1:=Zf (YA.out w1 Wp hJ1);have hk1':=Zf hk1;clear c0 d0 hy1 hk1 Wp hJ1;gi_wp2;refine⟨trivial,rfl,CallsIn.mono q1.out ?_⟩;rintro e w2 (⟨rfl,Xc,Yp⟩|⟨rfl,hx⟩)
  ·have VI:=hk1'.out.trans Yp
   have Wh:=(Kr.alloc S W _).trans VI;have e5:=QO Yi.out _ _ VI 13 _ rfl;exact um
  ·exact Qc
 ·exact uq):P:=h
def LV(h:P:=by
 have Uf:=Zf (show ∃z,wc=plus V z by rw[hzc,ZY.out,ZD];exact⟨_,rfl⟩);clear hG hzc hR ZY;rw[←Yk wc];obtain⟨Yc,hYc⟩:=ZB ((⟨#[],wc.drawn⟩:ZH):ZH);rw[hYc];clear hYc;exact Le):P:=h
def adK(h:P:=by
 open Z renaming vp→A7 in exact tB):P:=h
def adL(h:P:=by
 open Z renaming ak0→A7 in exact tB):P:=h
def adM(h:P:=by
 go_upto_region 8 with (fail)
 refine wp_region_held_drew (S:=fun U=>∃z,U=plus wc z) asC ⟨⟨Yc.blocks,Yc.draws+1⟩,rfl⟩ (fun hHeld=>?_);obtain⟨U0,TL⟩:=ZB ((plus wc Yc).drew);rw[TL]at hHeld ⊢;clear TL;refine wpAnyH_take (i:=0) (v:=?vb0) rfl asC asC asC (fun _ _ _ h=>h) (Or.inl ⟨asH,?hb0⟩) hHeld ?rb0
 case hb0 =>
  rintro _ ⟨z,rfl⟩;go_simp;try with_reducible rfl
 simp only[Act.put,Zp,Zr,Zq];refine wpAnyH_take (i:=1) (v:=?vb1) rfl asC asC asC (fun _ _ _ h=>h) (Or.inl ⟨asH,?hb1⟩) hHeld ?rb1
 case hb1 =>
  rintro _ ⟨z,rfl⟩;go_simp;try with_reducible rfl
 simp only[Act.put,Zp,Zr,Zq];refine wpAnyH_take (i:=2) (v:=?vb2) rfl asC asC asC (fun _ _ _ h=>h) (Or.inl ⟨asH,?hb2⟩) hHeld ?rb2
 case hb2 =>
  rintro _ ⟨z,rfl⟩;go_simp;try with_reducible rfl
 simp only[Act.put,Zp,Zr,Zq];refine wpAnyH_take (i:=3) (v:=?vb3) rfl asC asC asC (fun _ _ _ h=>h) (Or.inl ⟨asH,?hb3⟩) hHeld ?rb3
 case hb3 =>
  rintro _ ⟨z,rfl⟩;go_simp;try with_reducible rfl
 simp only[Act.put,Zp,Zr,Zq];refine wpAnyH_take (i:=4) (v:=?vb4) rfl asC asC asC (fun _ _ _ h=>h) (Or.inl ⟨asH,?hb4⟩) hHeld ?rb4
 case hb4 =>
  rintro _ ⟨z,rfl⟩;go_simp;try with_reducible rfl
 simp only[Act.put,Zp,Zr,Zq];refine wpAnyH_take (i:=5) (v:=?vb5) rfl asC asC asC (fun _ _ _ h=>h) (Or.inl ⟨asH,?hb5⟩) hHeld ?rb5
 case hb5 =>
  rintro _ ⟨z,rfl⟩;go_simp;rw[if_pos (show (1:Int)<(en:Int) by omega)]
 simp only[Act.put,Zp,Zr,Zq];refine wpAnyH_take (i:=6) (v:=?vb6) rfl asC asC asC (fun _ _ _ h=>h) (Or.inl ⟨asH,?hb6⟩) hHeld ?rb6
 case hb6 =>
  rintro _ ⟨z,rfl⟩;go_simp;try with_reducible rfl
 simp only[Act.put,Zp,Zr,Zq];refine wpAnyH_ready (rs:=[7]) asC asD ?_;refine Za rfl (fun K hK=>?_) AllReadyH.nil;go_simp;refine (qkd.out _ (hcu2 hHeld)).mono ?_;rintro r w' ⟨rfl,x1,rfl⟩;obtain⟨za,hza⟩:=hHeld;obtain⟨zz,hzz⟩:=Uf.out;exact⟨rfl,rfl,by rw[hza,hzz,ZD,ZD];exact⟨_,rfl⟩⟩):P:=h
def adN(h:P:=by
 go_wp2_with fail;refine (qko.out _ (hcu.out _)).mono ?_;rintro r w' ⟨rfl,x5,rfl⟩;exact vv):P:=h
def adO(h:P:=by
 have kq:=Zf (fun y=>(qkd.out _ (hcu.out y)).mono (R':=fun e w'=>e=.returned (.agg #[.int .i64 sw,.bool st,.bool sf])∧∃x,w'=plus wc x) fun _ _ ⟨h,x,hx⟩=>⟨h,_,hx.trans (ZD _ _ _)⟩);clear qkd;have h1i:(1:Int)<(en:Int):=asB;go_upto_region 8 with (fail)
 refine Wj 8 asC asC ?_;simp only[Zs,List.take_zero,Zg,Zh];repeat (go_big_quiet_step (first|(with_reducible exact kq.out _)))
 refine wpQuiet_nil ?_;rintro _ ⟨y1,rfl⟩;clear kq;go_wp2_with fail;refine (qko.out _ (hcu.out y1)).mono ?_;rintro r w' ⟨rfl,x2,rfl⟩;exact zF):P:=h
def wR(h:P:=by
 have g2:=cg 2 (some (.slice p2 n2 c2)) rfl;have g3:=cg 3 (some (.slice p3 n3 c3)) rfl;have g4:=cg 4 (some (.slice p4 n4 c4)) rfl;have g5:=cg 5 (some (.slice p5 n5 c5)) rfl;have g6:=cg 6 (some (.slice p6 n6 c6)) rfl;exact BP):P:=h
def adP(h:P:=by
 have b0:=ce 0 (some (.int .u8 1)) rfl;open Z renaming apS→Lu in exact Kl):P:=h
def adQ(h:P:=by
 have b0:=ce 0 (some (.int .u8 1)) rfl;open Z renaming apT→Lu in exact Kl):P:=h
def wV(h:P:=by
 have h0:=Zf h0;have hE:=Zf hE;go_enter func132,ntmps132;go_wp2_with fail;obtain⟨W,yy,hW,⟨z,hz⟩,ca,cb⟩:=Xu V _ _ 117 61;open Z renaming aiM→GD in exact E9):P:=h
def adR(h:P:=by
 refine (q0.out _).mono ?_;rintro r w' ⟨rfl,x1,rfl⟩;go_wp2_with (go_at_call 191;with_reducible refine (q1.out _).mono ?_;rintro r w' ⟨rfl,x,rfl⟩);exact Ul):P:=h
def Il(h:P:=by
 rw[YV.out]at XV Wi;obtain⟨pa,ha,hc⟩:=XV.out k x hx;simp only at ha;subst ha;have hc:=YR hz hc;have qc:=Zf (ZK hz (Wi.out x (Zo hx)));have d0:=fun y=>(hc.plus y).c0 _ rfl;have d1:=fun y=>(hc.plus y).cs 0 _ rfl;exact KW):P:=h
def adS(h:P:=by
 clear ZR Wi XV hz YV hc hx ZO;simp only[Hr.cells,Sl.v]at *;exact qy):P:=h
def adT(h:P:=by
 have d2:=fun y=>(hc.plus y).cs 1 _ rfl;clear ZR Wi XV hz YV hc hx ZO;simp only[Ac.cells,Sl.v]at *;exact qy):P:=h
def adU(h:P:=by
 clear ZR Wi XV hz YV hc hx ZO;simp only[Hr.cells,Sl.v]at *;exact ss):P:=h
def adV(h:P:=by
 have d2:=fun y=>(hc.plus y).cs 1 _ rfl;clear ZR Wi XV hz YV hc hx ZO;simp only[Ac.cells,Sl.v]at *;exact ss):P:=h
def Im(h:P:=by
 intro y0;have hN:=hN.up y0;obtain⟨V,hV⟩:=ZB (plus w y0);rw[hV]at hN ⊢;clear hV;have Sz:=Zf hN;clear hN;go_enter func47,ntmps47;go_wp2_with fail;obtain⟨X,Y0,hX,⟨zX,ZE⟩,-,ca,cb,cc,fc⟩:=Tb V _ _ _ 90 45 75;exact KX):P:=h
def adW(h:P:=by
 open Z renaming ani→WL in exact WO):P:=h
def adX(h:P:=by
 open Z renaming anj→WL in exact WO):P:=h
def adY(h:P:=by
 open Z renaming anl→WL in exact WO):P:=h
def adZ(h:P:=by
 open Z renaming ann→WL in exact WO):P:=h
def wY(h:P:=by
 obtain⟨X,Y0,eX,⟨zX,ZE⟩,ca⟩:=YO V #[.slice p.headers.p p.headers.l.length p.headers.cap,.slice p.metas.p p.metas.l.length p.metas.cap,.slice p.states.p p.states.l.length p.states.cap,.slice p.actions.p p.actions.l.length p.actions.cap,.slice p.tables.p p.tables.l.length p.tables.cap,.slice p.control.p p.control.l.length p.control.cap,.slice p.emit.p p.emit.l.length p.emit.cap] 30;rw[eX];have g0:=ca 0 _ rfl;have g1:=ca 1 _ rfl;have g2:=ca 2 _ rfl;have g3:=ca 3 _ rfl;have g4:=ca 4 _ rfl;have g5:=ca 5 _ rfl;have g6:=ca 6 _ rfl;have q:=Zf (ZK ZE qC'.out);have hz:=Zf ZE;exact BR):P:=h
def ad0(h:P:=by
 have CA:=Zf ca;clear hX qC' ca eX ZE;go_wp2_with fail;refine (q.out _).mono ?_;rintro r w' ⟨rfl,x1,rfl⟩;clear q;have hb0:∀j v,p.cells[j]?=some v→∀y,(plus X y).cell? ⟨V.heap.size,j,none⟩=some v:=fun j v hj y=>CA.out j _ (by rw[←hj];exact List.getElem?_toArray) y;have hVX:V.heap.size<X.heap.size:=KA (by have q:=g0 ⟨#[],X.drawn⟩;rw[Yk]at q;exact q);have HB0:=Zf hb0;have HVX:=Zf hVX;clear hb0 hVX;obtain⟨U,hU⟩:=ZB (plus X x1);have hUX:∃y,U=plus X y:=⟨x1,hU.symm⟩;rw[hU];have HU:=Zf hUX;clear hU hUX g0 g1 g2 g3 g4 g5 g6;go_upto_region 5 with (fail)
 have hNb:Boxed (U.alloc (.cells #[.int .i64 0] 3)) U.heap.size 3 (.int .i64 0):=Boxed.new U _ _;have hWz:∃y,U.alloc (.cells #[.int .i64 0] 3)=plus V y:=by
  obtain⟨y,hy⟩:=HU.out;rw[hy,hz.out,ZD];exact MS _
 have hWX:∃y,U.alloc (.cells #[.int .i64 0] 3)=plus X y:=So HU.out _;have hUV:V.heap.size<U.heap.size:=by obtain⟨y,hy⟩:=HU.out;rw[hy];exact Zu HVX.out (XZ X y)
 obtain⟨W,hW⟩:=ZB (U.alloc (.cells #[.int .i64 0] 3));rw[hW]at hNb hWz hWX ⊢;obtain⟨nb,W7⟩:=ZB U.heap.size;rw[W7]at hNb hUV ⊢;have HN:=Zf hNb;have HWz:=Zf hWz;have HWX:=Zf hWX;have HUV:=Zf hUV;clear hW W7 hNb hWz hWX hUV;have hG:∀w,(callFunc 19 #[.pointer (some ⟨V.heap.size,0,none⟩),.pointer (some ⟨nb,0,none⟩)]).run Zx w=.ok (.enter 19 #[.pointer (some ⟨V.heap.size,0,none⟩),.pointer (some ⟨nb,0,none⟩)]) w:=by
  intro w;simp[go_sem]
 have kC:=xu W 19 #[.pointer (some ⟨V.heap.size,0,none⟩),.pointer (some ⟨nb,0,none⟩)] hG SR (fun w'=>∃y,w'=plus ((W.alloc (.cells #[.int .i64 0] 33)).setCell ⟨nb,0,none⟩ (.int .i64 (SN1:Int))) y)
  ((T1.out (W.alloc (.cells #[.int .i64 0] 33)) V.heap.size nb (So HWz.out _) (fun j v hj=>by
    obtain⟨y,hy⟩:=So HWX.out (.cells #[.int .i64 0] 33);rw[hy];exact HB0.out j v hj y) (by have:=HUV.out;omega) (HN.out.alloc _) (by have:=HUV.out;omega)).mono fun e w' ⟨h1,y,h2⟩=>by
   have hnW:=HN.out.lt;have YN:(⟨nb,0,none⟩:Addr).block≠W.heap.size:=by show nb≠_;omega
   have hh:w'.heap[W.heap.size]?=some (.cells #[.int .i64 0] 33 (0,0)):=by
    rw[h2];exact ((Xl _ y).block _ (by rw[World.size_setCell];simp)).trans ((Below.heap_setCell _ _ _ _ (fun e=>YN e.symm)).trans (World.alloc_heap_new W _))
   exact⟨h1,⟨y,h2⟩,YX hh rfl,fun o=>frozen_of_row w' _ o _ _ hh⟩)
 have KC:=Zf kC;clear kC hG T1;go_wp2_with fail;refine KC.out.mono ?_;rintro r w' ⟨rfl,U5,⟨y5,rfl⟩,rfl⟩;have hnW:=HN.out.lt;have hBN:Boxed ((plus ((W.alloc (.cells #[.int .i64 0] 33)).setCell ⟨nb,0,none⟩ (.int .i64 (SN1:Int))) y5).setCell ⟨W.heap.size,0,none⟩ (.int .i64 SR)) nb 3 (.int .i64 (SN1:Int)) :=
  (Below.heap_setCell _ _ _ nb asX).trans (UN (Boxed.set _ (HN.out.alloc _)) y5)
 have Ol:∃y,(plus ((W.alloc (.cells #[.int .i64 0] 33)).setCell ⟨nb,0,none⟩ (.int .i64 (SN1:Int))) y5).setCell ⟨W.heap.size,0,none⟩ (.int .i64 SR)=plus V y:=by
  obtain⟨z,hz⟩:=So HWz.out (.cells #[.int .i64 0] 33);have hVn:=HUV.out;refine Yy (Below.setCell (Below.trans ?_ ((Xl _ y5).mono (by rw[World.size_setCell,hz];exact XZ V z))) (by show V.heap.size≤W.heap.size;omega) _);rw[hz];exact (Xl V z).setCell (p:=⟨nb,0,none⟩) (by show V.heap.size≤nb;omega) _
 obtain⟨U6,hU6⟩:=ZB ((plus ((W.alloc (.cells #[.int .i64 0] 33)).setCell ⟨nb,0,none⟩ (.int .i64 (SN1:Int))) y5).setCell ⟨W.heap.size,0,none⟩ (.int .i64 SR));rw[hU6]at hBN Ol ⊢;have n1:=hBN.cell;have HL:=Zf Ol;clear hU6 hBN Ol hnW KC;go_wp2;go_ret2;exact⟨rfl,HL.out⟩):P:=h
def ad1(h:P:=by
 clear eX ca ZE qC';go_wp2_with fail;refine (q.out _).mono ?_;rintro r w' ⟨rfl,x1,rfl⟩;clear q;go_wp2;go_ret2;exact EO):P:=h
def SV(h:P:=by
 have hF:=Zf (show (false)=R by first|exact hR|(rw[←hR];simp[q1,q2,q3]));exact SI):P:=h
def ad2(h:P:=by
 clear hR;clear h1;exact rP):P:=h
def Sp(h:P:=by
 intro y0;have h0:=h0.up y0;have h1:=h1.up y0;obtain⟨V,hV⟩:=ZB (plus w y0);rw[hV]at h0 h1 ⊢;clear hV;exact Sk):P:=h
def ad3(h:P:=by
 obtain⟨R,hR⟩:=ZB ((a0==0)||(s0&&s1));rw[hR];by_cases q1:(a0==0)=true
 case neg =>
  have q1:(a0==0)=false:=asJ;cases s0
  case false =>
   open Z renaming asr→WV in exact WX
  case true =>
   cases s1
   case false =>
    open Z renaming pw→WV in exact WX
   case true =>
    open Z renaming pw→SJ in exact SW
 case pos =>
  open Z renaming afy→SJ in exact SW):P:=h
def ad4(h:P:=by
 obtain⟨R,hR⟩:=ZB (((s0)&&(s1)));rw[hR];cases s0
 case false =>
  open Z renaming acY→Xy in exact Xz
 case true =>
  cases s1
  case false =>
   open Z renaming pB→Xy in exact Xz
  case true =>
   open Z renaming pB→RP in exact Qa):P:=h
def ad5(h:P:=by
 obtain⟨R,hR⟩:=ZB ((a0==1)&&((a1==0)&&decide (k≤0)));rw[hR];by_cases q1:(a0==1)=true
 case neg =>
  have q1:(a0==1)=false:=asJ;open Z renaming pJ→WV in exact WX
 case pos =>
  by_cases q2:(a1==0)=true
  case neg =>
   have q2:(a1==0)=false:=asL;open Z renaming pJ→Vg in exact Vk
  case pos =>
   have hF:=Zf (show (decide (k≤0))=R by first|exact hR|(rw[←hR];simp[q1,q2]));clear hR;have h0:=Zf h0;have h1:=Zf h1;go_enter func213,ntmps213;go_wp2;obtain⟨W,yy,hW,⟨z,hz⟩,cb0⟩:=YO V _ 45;open Z renaming aqN→QW in exact Q5):P:=h
def ad6(h:P:=by
 open Z renaming arb→TU in exact T2):P:=h
def ad7(h:P:=by
 open Z renaming arc→TU in exact T2):P:=h
def ad8(h:P:=by
 obtain⟨R,hR⟩:=ZB (s0&&(s1&&(fk||(((a12n:Int)==0)&&((a13n:Int)==0)))));rw[hR];cases s0
 case false =>
  open Z renaming adf→Xy in exact Xz
 case true =>
  cases s1
  case false =>
   open Z renaming LP→Xy in exact Xz
  case true =>
   by_cases q1:(fk)=true
   case neg =>
    have q1:(fk)=false:=asJ;by_cases q2:((a12n:Int)==0)=true
    case neg =>
     have q2:((a12n:Int)==0)=false:=asL;open Z renaming LP→Vg in exact Vk
    case pos =>
     by_cases q3:((a13n:Int)==0)=true
     case neg =>
      have q3:((a13n:Int)==0)=false:=asP;open Z renaming LP→SI in exact SV
     case pos =>
      open Z renaming LP→Jj in exact IW
   case pos =>
    open Z renaming LP→SJ in exact SW):P:=h
def ad9(h:P:=by
 obtain⟨R,hR⟩:=ZB ((a0==0)||(s0&&s1));rw[hR];by_cases q1:(a0==0)=true
 case neg =>
  have q1:(a0==0)=false:=asJ;cases s0
  case false =>
   open Z renaming ass→WV in exact WX
  case true =>
   cases s1
   case false =>
    open Z renaming rH→WV in exact WX
   case true =>
    open Z renaming rH→SJ in exact SW
 case pos =>
  open Z renaming afz→SJ in exact SW):P:=h
def aea(h:P:=by
 obtain⟨R,hR⟩:=ZB ((!((a8n:Int) !=0))&&((!(a4.toList==[])&&s0)&&((!(a5.toList==[])&&s1)&&(((a1==0)&&((a2==0)&&(a3==0)))&&((a6==0)&&(a7==0))))));rw[hR];by_cases q1:((a8n:Int) !=0)=true
 case neg =>
  have q1:((a8n:Int) !=0)=false:=asJ;by_cases q2:(a4.toList==[])=true
  case neg =>
   open Z renaming ahw→Ja in exact IA
  case pos =>
   open Z renaming ak6→NU in exact Mz
 case pos =>
  open Z renaming DL→WV in exact WX):P:=h
def aeb(h:P:=by
 open Z renaming adt→Oy in exact OW):P:=h
def aec(h:P:=by
 open Z renaming adu→Oy in exact OW):P:=h
def aed(h:P:=by
 obtain⟨R,hR⟩:=ZB (decide (d≤16)&&s1);rw[hR];by_cases q1:d≤16
 case neg =>
  open Z renaming asu→WV in exact WX
 case pos =>
  cases s1
  case false =>
   open Z renaming qK→WV in exact WX
  case true =>
   open Z renaming qK→SJ in exact SW):P:=h
def aee(h:P:=by
 obtain⟨R,hR⟩:=ZB (s0&&s1);rw[hR];cases s0
 case false =>
  open Z renaming adj→Xy in exact Xz
 case true =>
  cases s1
  case false =>
   open Z renaming qO→Xy in exact Xz
  case true =>
   open Z renaming qO→RP in exact Qa):P:=h
def aef(h:P:=by
 open Z renaming arl→TU in exact T2):P:=h
def aeg(h:P:=by
 open Z renaming adv→Oy in exact OW):P:=h
def EQ(h:P:=by
 have d0:=fun y=>(Yo y).c0 _ rfl;have d1:=fun y=>(Yo y).cs 0 _ rfl;have d2:=fun y=>(Yo y).cs 1 _ rfl;have d3:=fun y=>(Yo y).cs 2 _ rfl;have d4:=fun y=>(Yo y).cs 3 _ rfl;have d5:=fun y=>(Yo y).cs 4 _ rfl;have d6:=fun y=>(Yo y).cs 5 _ rfl;have d7:=fun y=>(Yo y).cs 6 _ rfl;have d8:=fun y=>(Yo y).cs 7 _ rfl;exact Gq):P:=h
def aei(h:P:=by
 have M7:=Zf RH;have hle':=Zf Uy;clear Yo hc RH Uy hew Xw ZV he;go_wp2_with (go_at_call 14;refine (TP.out _).mono ?_;rintro r w' ⟨rfl,x,rfl⟩);have a1:=hwt'.out;have a2:=Yi.out;have a3:=M7.out;have a4:=hle'.out;have a6:=Y7 k n ZC Yt.out;have a7:wrap64 ((YT Ex.wt (1+hd.size+nm.size) args k:Int)+(e.wt:Int))=(YT Ex.wt (1+hd.size+nm.size) args (k+1):Int):=by
  rw[Wv _ asB,a3];simp
 clear a1 a2 a3 a4;go_roundw
 case rel=>exact⟨k+1,ZC,congrArg (Zz .i64) a6,congrArg (Zz .i64) a7,_,ZD W y x⟩
 case measure=>exact Y9 k n ZC a6):P:=h
def aej(h:P:=by
 simp only[Ex.op,Ex.lit,Ex.head,Ex.name,Ex.hi,Ex.lo,Ex.p,Ex.cap,Ex.args]at d0 d1 d2 d3 d4 d5 d6 d7 d8;have TP:=Zf Xw;have a6:=Zf (Y7 k n ZC Yt.out);clear Yo hc hew Xw ZV he Vp hD hD0 hD1 hdw;have hnew':=Zf Ph;clear Ph;go_wp2_with (go_at_call 204;refine (TP.out _).mono ?_;rintro r w' ⟨rfl,x,rfl⟩);all_goals
  go_roundw
  case rel=>first
   | exact⟨k+1,ZC,congrArg (Zz .i64) a6.out,congrArg (Zz .i64) ((mN a7.out hnew'.out ‹(D0:Int)<wrap64 (1+(D:Int))›).trans (congrArg Int.ofNat hD1'.out.symm)),_,ZD W y x⟩
   | exact⟨k+1,ZC,congrArg (Zz .i64) a6.out,congrArg (Zz .i64) ((mM hnew'.out ‹wrap64 (1+(D:Int))≤(D0:Int)›).trans (congrArg Int.ofNat hD1'.out.symm)),_,ZD W y x⟩
  case measure=>exact Y9 k n ZC a6.out):P:=h
def aek(h:P:=by
 simp only[Ex.op,Ex.lit,Ex.head,Ex.name,Ex.hi,Ex.lo,Ex.p,Ex.cap,Ex.args]at d0 d1 d2 d3 d4 d5 d6 d7 d8;have Qp:Wo Zx W 111 #[.agg #[.slice p.headers.p p.headers.l.length p.headers.cap,.slice p.metas.p p.metas.l.length p.metas.cap,.slice p.states.p p.states.l.length p.states.cap,.slice p.actions.p p.actions.l.length p.actions.cap,.slice p.tables.p p.tables.l.length p.tables.cap,.slice p.control.p p.control.l.length p.control.cap,.slice p.emit.p p.emit.l.length p.emit.cap],.int .i64 act,.agg #[.int .u8 eop,.int .i64 elw,.int .u64 elh,.int .u64 ell,.string ehd,.string enm,.int .i64 eeh,.int .i64 eel,.slice eep eargs.length ecap]] (.bool Z):=Xw;have TP:=Zf Qp;have a6:=Zf (Y7 k n ZC Yt.out);rw[hap];clear Yo hc hew Xw Qp ZV he hZ hs;cases Z with
 | true =>
  have ZP:=Zf (show (args.drop (k+1)).all (Ex.there (YP p act))=R by rw[←ZQ,Bool.true_and]);clear ZQ;go_upto_region 17 with (fail)
  refine Wz asC asC ?_;repeat (go_big_quiet_step (first|(with_reducible exact TP.out _)))
  refine wpQuiet_nil ?_;rintro _ ⟨y2,rfl⟩;go_wp2;go_roundw
  case rel=>exact⟨k+1,ZC,congrArg (Zz .i64) a6.out,ZP,_,rfl⟩
  case measure=>exact Y9 k n ZC a6.out
 | false =>
  have ZP:=Zf (show false=R by rw[←ZQ,Bool.false_and]);clear ZQ;go_upto_region 17 with (fail)
  refine Wz asC asC ?_;repeat (go_big_quiet_step (first|(with_reducible exact TP.out _)))
  refine wpQuiet_nil ?_;rintro _ ⟨y2,rfl⟩;go_wp2;go_ret;exact⟨congrArg (fun z=>Zd (Zy z)) ZP.out,asO⟩):P:=h
def ER(h:P:=by
 go_upto_region 1 with (fail)
 obtain⟨U,yy,TL,⟨zU,X9⟩,cp⟩:=YO w _ 30;rw[TL];have qM:=Zf (ZK X9 kM'.out);have hzU':=Zf X9;have cp0:=cp 0 _ rfl;have cp1:=cp 1 _ rfl;have cp2:=cp 2 _ rfl;have cp3:=cp 3 _ rfl;have cp4:=cp 4 _ rfl;have cp5:=cp 5 _ rfl;have cp6:=cp 6 _ rfl;clear TL cp X9 kM';exact Gr):P:=h
def aem(h:P:=by
 go_wp2_with (first|(go_at_call 39;with_reducible refine (qM.out _).mono ?_;rintro r w' ⟨rfl,x,rfl⟩));exact pg):P:=h
def aen(h:P:=by
 go_wp2_with (first|(go_at_call 22;with_reducible refine (qM.out _).mono ?_;rintro r w' ⟨rfl,x,rfl⟩));exact pg):P:=h
def aeo(h:P:=by
 clear hB;have hI:=Zf (show ∀W,(∃z,W=plus U z)→Calls Zx 9 #[.agg #[.slice p.headers.p p.headers.l.length p.headers.cap,.slice p.metas.p p.metas.l.length p.metas.cap,.slice p.states.p p.states.l.length p.states.cap,.slice p.actions.p p.actions.l.length p.actions.cap,.slice p.tables.p p.tables.l.length p.tables.cap,.slice p.control.p p.control.l.length p.control.cap,.slice p.emit.p p.emit.l.length p.emit.cap]] W (fun e w'=>∃v,e=.returned v∧XC W w' v (Yh p)) from fun W ⟨z,h⟩=>by
  subst h;rw[hzU'.out,ZD];exact dB p _ (VR.out.plus _) ZN.out)
 exact BD):P:=h
def Ip(h:P:=by
 open Z renaming ajz→GF in exact Dg):P:=h
def aeq(h:P:=by
 open Z renaming amR→Wl in exact Wn):P:=h
def aer(h:P:=by
 open Z renaming amS→Wl in exact Wn):P:=h
def aes(h:P:=by
 open Z renaming amT→Wl in exact Wn):P:=h
def aet(h:P:=by
 open Z renaming amU→Wl in exact Wn):P:=h
def Iq(h:P:=by
 obtain⟨pa,hp,hc⟩:=ZF.actions.row a x hx;have hl:=(Zi.1 hx).1;have hc1:Yg w (pa.add (a*3)) [.string x.name,.slice x.params.p x.params.l.length x.params.cap,.slice x.body.p x.body.l.length x.body.cap]:=hc;exact KZ):P:=h
def aeu(h:P:=by
 have h1:=JO p w ZF hz x.name;have h2:=Px (XD p.actions.l x.name) (a:Int) w;rw[hp]at h1 ⊢;exact aaV _ _ _ _ _ _ _ _ _ _ _ _ _ _ _ _ _ _ _ _ _ _ _ _ _ _ _ _ _ _ _ _ _ _ _ _ _ _ _ _ _ _ _ _ _ _ _ _ _ _ _ (a) (hl) (hc1) (h1) (h2)):P:=h
def aev(h:P:=by
 obtain⟨pb,Xx,hc2⟩:=(ZF.actions.kids x hm).params.row b y hy;have XK:=(Zi.1 hy).1;rw[Xx]at hc1;have h1:=FL p w ZF hz (a:Int) y.name;have h2:=Px (WN p (a:Int) y.name) (b:Int) w;rw[hp]at h1 ⊢;exact aa5 _ _ _ _ _ _ _ _ _ _ _ _ _ _ _ _ _ _ _ _ _ _ _ _ _ _ _ _ _ _ _ _ _ _ _ _ _ _ _ _ _ _ _ _ _ _ _ _ _ _ _ _ _ (a) (hl) (hc1) (b) (XK) (hc2) (h1) (h2)):P:=h
def aew(h:P:=by
 have h1:=JU p w ZF hz x.name;rw[hp]at h1 ⊢;exact gW _ _ _ _ _ _ _ _ _ _ _ _ _ _ _ _ _ _ _ _ _ _ _ _ _ _ _ _ _ _ _ _ _ _ _ _ _ _ _ _ _ _ _ _ _ (mD _ _ _ _ _ _ _ _ _ _ _ _ _ _ _ _ _ _ _ _ _ _ _ _ _ _ _ _ _ _ _ _ _ _ _ _ _ _ _ _ _ _ _ _ _ _ _ _ _ _ _ (a) (hl) (hc1) (h1) (rfl))):P:=h
def aex(h:P:=by
 obtain⟨pb,Xx,hc2⟩:=(ZF.actions.kids x hm).params.row b y hy;have XK:=(Zi.1 hy).1;rw[Xx]at hc1;have h1:=FQ p w ZF hz (a:Int) y.name;rw[hp]at h1 ⊢;exact gX _ _ _ _ _ _ _ _ _ _ _ _ _ _ _ _ _ _ _ _ _ _ _ _ _ _ _ _ _ _ _ _ _ _ _ _ _ _ _ _ _ _ _ _ _ (mH _ _ _ _ _ _ _ _ _ _ _ _ _ _ _ _ _ _ _ _ _ _ _ _ _ _ _ _ _ _ _ _ _ _ _ _ _ _ _ _ _ _ _ _ _ _ _ _ _ _ _ _ _ (a) (hl) (hc1) (b) (XK) (hc2) (h1) (rfl))):P:=h
def Ir(h:P:=by
 have cp0:=cp 0 _ rfl;have cp1:=cp 1 _ rfl;have cp2:=cp 2 _ rfl;have cp3:=cp 3 _ rfl;have cp4:=cp 4 _ rfl;have cp5:=cp 5 _ rfl;have cp6:=cp 6 _ rfl;exact K0):P:=h
def aey(h:P:=by
 have Uu:=YR hz0 Yo.out;have d0:=Uu.c0 _ rfl;have d1:=Uu.cs 0 _ rfl;have e0:=cp0 ⟨#[],U.drawn⟩;rw[Yk]at e0;have hcU':=Zf Uu;have hz0':=Zf hz0;clear hU hB cp Uu Yo hz0;go_upto_region 2 with (fail)
 obtain⟨W,hW,hB,-,ch,-⟩:=WS U _ 66;rw[←hW];obtain⟨z,ZG⟩:=Yy hB;obtain⟨zV,hzV⟩:∃x,W=plus V x:=by rw[ZG,hz0'.out,ZD];exact⟨_,rfl⟩
 have p0:=XW ZG cp0;have p1:=XW ZG cp1;have p2:=XW ZG cp2;have p3:=XW ZG cp3;have p4:=XW ZG cp4;have p5:=XW ZG cp5;have p6:=XW ZG cp6;have h0:=ch 0 _ rfl;have h1:=ch 1 _ rfl;have q1:=Zf (ZK hzV ZL'.out);have q2:=Zf (ZK hzV ZT'.out);have q3:=Zf (ZK hzV Ys'.out);have ZY:=Zf hzV;clear hW hB ch ZG hzV ZL' ZT' Ys' hcU' d0 d1 e0 hz0' cp0 cp1 cp2 cp3 cp4 cp5 cp6;have w0:=Yk W;rw[←w0];have hR:=ZR.out;clear ZR w0;by_cases i1:I=(k:Int)
 ·rw[if_pos i1]at hR q2
  subst i1;by_cases b1:B.tmod 8=0
  ·by_cases b2:B≤256
   ·rw[if_pos ⟨b1,b2⟩]at hR
    exact vP
   ·rw[if_neg (fun h=>b2 h.2)]at hR
    replace hR:=Zf hR;have b3:256<B:=asB;clear b2;exact EY
  ·rw[if_neg (fun h=>b1 h.1)]at hR
   exact vP
 ·rw[if_neg i1]at hR q2
  replace hR:=Zf hR;clear i1;exact EY):P:=h
def aez(h:P:=by
 have ct0:=ct 0 _ rfl;have ct1:=ct 1 _ rfl;have ct2:=ct 2 _ rfl;have ct3:=ct 3 _ rfl;have ct4:=ct 4 _ rfl;have Yv:=YR ZG Yo.out;have d1:=fun y=>(Yv.plus y).cs 0 _ rfl;have q1:=Zf (ZK ZG ZL'.out);have q2:=Zf (ZK ZG ZT'.out);have ZY:=Zf ZG;clear hW ZG cp ct Yv Yo ZL' ZT';go_upto_region 3 with (first|(go_at_call 162;with_reducible refine (q1.out _).mono ?_;rintro r w' ⟨rfl,x,rfl⟩))
 refine Wz asC asC ?_;repeat (go_big_quiet_step (first|(with_reducible exact q2.out _)))
 refine wpQuiet_nil ?_;rintro _ ⟨y2,rfl⟩;have hR:=ZR.out;clear ZR q1 q2 i1;by_cases b1:gn<j
 ·rw[if_pos b1]at hR
  exact E3
 ·rw[if_neg b1]at hR
  by_cases b2:j<gn
  ·rw[if_pos b2]at hR
   exact E3
  ·rw[if_neg b2]at hR
   exact E3):P:=h
def aeA(h:P:=by
 have cs0:=cs 0 _ rfl;have cs1:=cs 1 _ rfl;have cs2:=cs 2 _ rfl;have cs3:=cs 3 _ rfl;have cs4:=cs 4 _ rfl;have cs5:=cs 5 _ rfl;have cs6:=cs 6 _ rfl;have cs7:=cs 7 _ rfl;have cs8:=cs 8 _ rfl;have cs9:=cs 9 _ rfl;have cs10:=cs 10 _ rfl;have cs11:=cs 11 _ rfl;have cs12:=cs 12 _ rfl;have cs13:=cs 13 _ rfl;have q1:=Zf (ZK ZG ZL'.out);have q2:=Zf (ZK ZG ZT'.out);have q3:=Zf (ZK ZG Ys'.out);have q4:=Zf (ZK ZG YQ'.out);have qN:=Zf (ZK ZG kN'.out);have ZY:=Zf ZG;clear hW ZG cp cs ZL' ZT' Ys' YQ' kN';replace hv:=hv.out;by_cases o1:kd=1
 ·subst o1
  by_cases e:(hd.toList==([]:List UInt8))=true
  ·have e2:hd.toList.isEmpty=true:=by simpa using e
   rcases g3.out with i1|i1
   ·rw[if_pos rfl,if_pos e,if_pos i1]at hv
    subst i1;open Z renaming rz→A0 in exact tq
   ·rw[if_pos rfl,if_pos e,if_neg asB]at hv
    open Z renaming rB→A0 in exact tq
  ·have e1:(hd.toList==([]:List UInt8))=false:=by simpa using e
   have e2:hd.toList.isEmpty=false:=ate;rcases g2.out with i1|i1
   ·rw[if_pos rfl,if_neg e,if_pos i1]at hv
    subst i1;replace hv:=Zf hv;open Z renaming rz→Lf in exact LX
   ·rw[if_pos rfl,if_neg e,if_neg asB]at hv
    replace hv:=Zf hv;open Z renaming rB→Lf in exact LX
 rw[if_neg o1]at hv;by_cases o3:kd=3
 ·subst o3
  rw[if_pos rfl]at hv;rcases g4.out with i1|i1
  ·subst i1
   exact rC
  ·have i2:0≤I4:=by omega
   have i3:(I4 !=-1)=true:=atV;rw[i3]at hv;clear i3;exact rC
 rw[if_neg o3]at hv;by_cases o6:kd=6
 ·subst o6
  rw[if_pos (.inl rfl)]at hv;exact rE
 by_cases o7:kd=7
 ·subst o7
  rw[if_pos (.inr rfl)]at hv;exact rE
 rw[if_neg (fun h=>h.elim o6 o7)]at hv;by_cases o4:kd=4
 ·subst o4
  rw[if_pos rfl]at hv;exact ru
 rw[if_neg o4]at hv;replace hv:=Zf hv;have n1:(kd==1)=false:=by simpa using o1
 have n3:(kd==3)=false:=ato;have n6:(kd==6)=false:=atp;have n7:(kd==7)=false:=by simpa using o7
 have n4:(kd==4)=false:=by simpa using o4
 clear o1 o3 o6 o7 o4;exact rA):P:=h
def aeB(h:P:=by
 have ci0:=ci 0 _ rfl;have ci1:=ci 1 _ rfl;have ci2:=ci 2 _ rfl;have ci3:=ci 3 _ rfl;have ci4:=ci 4 _ rfl;have ci5:=ci 5 _ rfl;have ci6:=ci 6 _ rfl;have ci7:=ci 7 _ rfl;have ci8:=ci 8 _ rfl;have ci9:=ci 9 _ rfl;have ci10:=ci 10 _ rfl;have ci11:=ci 11 _ rfl;have ci12:=ci 12 _ rfl;have ci13:=ci 13 _ rfl;have ci14:=ci 14 _ rfl;have ci15:=ci 15 _ rfl;have ci16:=ci 16 _ rfl;exact Wl):P:=h
def ES(h:P:=by
 have c0:=ce 0 (some (.int .u8 op)) rfl;have c1:=ce 1 (some (.int .i64 lw)) rfl;have c2:=ce 2 (some (.int .u64 lh)) rfl;have c3:=ce 3 (some (.int .u64 ll)) rfl;have c4:=ce 4 (some (.string hd)) rfl;have c5:=ce 5 (some (.string nm)) rfl;have c6:=ce 6 (some (.int .i64 eh)) rfl;have c7:=ce 7 (some (.int .i64 el)) rfl;exact Gs):P:=h
def aeC(h:P:=by
 have c8:=ce 8 (some (.slice (some pa) N cap)) rfl;have r0:=cr 0 (some (.int .i64 0)) rfl;have r1:=cr 1 (some (.bool false)) rfl;have r2:=cr 2 (some (.bool false)) rfl;have haW:=YR Yn ha'.out;have d0:∀y,(plus W y).cell? pa=some (.int .u8 XR):=fun y=>(haW.plus y).c0 _ rfl;have d1:∀y,(plus W y).cell? ⟨pa.block,pa.off+1,none⟩=some (.int .i64 alw):=fun y=>(haW.plus y).cs 0 _ rfl;have d2:∀y,(plus W y).cell? ⟨pa.block,pa.off+2,none⟩=some (.int .u64 alh):=fun y=>(haW.plus y).cs 1 _ rfl;have d3:∀y,(plus W y).cell? ⟨pa.block,pa.off+3,none⟩=some (.int .u64 all):=fun y=>(haW.plus y).cs 2 _ rfl;have d4:∀y,(plus W y).cell? ⟨pa.block,pa.off+4,none⟩=some (.string ahd):=fun y=>(haW.plus y).cs 3 _ rfl;have d5:∀y,(plus W y).cell? ⟨pa.block,pa.off+5,none⟩=some (.string anm):=fun y=>(haW.plus y).cs 4 _ rfl;have d6:∀y,(plus W y).cell? ⟨pa.block,pa.off+6,none⟩=some (.int .i64 aeh):=fun y=>(haW.plus y).cs 5 _ rfl;have d7:∀y,(plus W y).cell? ⟨pa.block,pa.off+7,none⟩=some (.int .i64 ael):=fun y=>(haW.plus y).cs 6 _ rfl;have d8:∀y,(plus W y).cell? ⟨pa.block,pa.off+8,none⟩=some (.slice ap an ac):=fun y=>(haW.plus y).cs 7 _ rfl;have hz:=Zf Yn;have kS:=Zf (Fh kA'.out Yn);clear eW Yn cg ce cr haW ha' kA';have hN0:0<N:=asB;have TK:((N:Int)==0)=false:=beq_eq_false_iff_ne.2 asB;go_upto_region 3 with (fail)
 obtain⟨W0,UL⟩:=ZB (plus W yW);rw[UL];have hO0:Xo W W0:=⟨_,UL.symm⟩;clear UL;go_cut [8,9] from 22 to 31 (fun s8 s9 wx=>∃b:Nat,s8=.pointer (some ⟨b,0,none⟩)∧s9=.int .i64 R1∧(wx.cell? ⟨b,0,none⟩=some (.int .i64 tw)∧wx.cell? ⟨b,1,none⟩=some (.bool tt)∧wx.cell? ⟨b,2,none⟩=some (.bool tf))∧wx.cell? ⟨w.heap.size,0,none⟩=some (.slice p.headers.p p.headers.l.length p.headers.cap)∧wx.cell? ⟨w.heap.size,1,none⟩=some (.slice p.metas.p p.metas.l.length p.metas.cap)∧wx.cell? ⟨w.heap.size,2,none⟩=some (.slice p.states.p p.states.l.length p.states.cap)∧wx.cell? ⟨w.heap.size,3,none⟩=some (.slice p.actions.p p.actions.l.length p.actions.cap)∧wx.cell? ⟨w.heap.size,4,none⟩=some (.slice p.tables.p p.tables.l.length p.tables.cap)∧wx.cell? ⟨w.heap.size,5,none⟩=some (.slice p.control.p p.control.l.length p.control.cap)∧wx.cell? ⟨w.heap.size,6,none⟩=some (.slice p.emit.p p.emit.l.length p.emit.cap)∧wx.cell? ⟨w.heap.size+1,8,none⟩=some (.slice (some pa) N cap)∧wx.cell? pa=some (.int .u8 XR)∧wx.cell? ⟨pa.block,pa.off+1,none⟩=some (.int .i64 alw)∧wx.cell? ⟨pa.block,pa.off+2,none⟩=some (.int .u64 alh)∧wx.cell? ⟨pa.block,pa.off+3,none⟩=some (.int .u64 all)∧wx.cell? ⟨pa.block,pa.off+4,none⟩=some (.string ahd)∧wx.cell? ⟨pa.block,pa.off+5,none⟩=some (.string anm)∧wx.cell? ⟨pa.block,pa.off+6,none⟩=some (.int .i64 aeh)∧wx.cell? ⟨pa.block,pa.off+7,none⟩=some (.int .i64 ael)∧wx.cell? ⟨pa.block,pa.off+8,none⟩=some (.slice ap an ac)∧Xo W wx)
 case first =>
  have hS:∀U,Xo W U→(U.cell? ⟨w.heap.size,0,none⟩=some (.slice p.headers.p p.headers.l.length p.headers.cap)∧U.cell? ⟨w.heap.size,1,none⟩=some (.slice p.metas.p p.metas.l.length p.metas.cap)∧U.cell? ⟨w.heap.size,2,none⟩=some (.slice p.states.p p.states.l.length p.states.cap)∧U.cell? ⟨w.heap.size,3,none⟩=some (.slice p.actions.p p.actions.l.length p.actions.cap)∧U.cell? ⟨w.heap.size,4,none⟩=some (.slice p.tables.p p.tables.l.length p.tables.cap)∧U.cell? ⟨w.heap.size,5,none⟩=some (.slice p.control.p p.control.l.length p.control.cap)∧U.cell? ⟨w.heap.size,6,none⟩=some (.slice p.emit.p p.emit.l.length p.emit.cap)∧U.cell? ⟨w.heap.size+1,8,none⟩=some (.slice (some pa) N cap)∧U.cell? pa=some (.int .u8 XR)∧U.cell? ⟨pa.block,pa.off+1,none⟩=some (.int .i64 alw)∧U.cell? ⟨pa.block,pa.off+2,none⟩=some (.int .u64 alh)∧U.cell? ⟨pa.block,pa.off+3,none⟩=some (.int .u64 all)∧U.cell? ⟨pa.block,pa.off+4,none⟩=some (.string ahd)∧U.cell? ⟨pa.block,pa.off+5,none⟩=some (.string anm)∧U.cell? ⟨pa.block,pa.off+6,none⟩=some (.int .i64 aeh)∧U.cell? ⟨pa.block,pa.off+7,none⟩=some (.int .i64 ael)∧U.cell? ⟨pa.block,pa.off+8,none⟩=some (.slice ap an ac)∧Xo W U):=fun U hU=>by
   exact sH
  have Vn:=Zf hS;have XE:=Zf hO0;have Uy:Hid (W.heap.size≤W0.heap.size):=by obtain⟨z,rfl⟩:=hO0;exact XZ W z
  clear hS hO0 g0 g1 g2 g3 g4 g5 g6 c0 c1 c2 c3 c4 c5 c6 c7 c8 d0 d1 d2 d3 d4 d5 d6 d7 d8 r0 r1 r2 fr YA Xg VP T8 hz hN0 TK hsW;have hN0:0<N:=asB;go_region_held3 (fun U=>U.cell? ⟨w.heap.size,0,none⟩=some (.slice p.headers.p p.headers.l.length p.headers.cap)∧U.cell? ⟨w.heap.size,1,none⟩=some (.slice p.metas.p p.metas.l.length p.metas.cap)∧U.cell? ⟨w.heap.size,2,none⟩=some (.slice p.states.p p.states.l.length p.states.cap)∧U.cell? ⟨w.heap.size,3,none⟩=some (.slice p.actions.p p.actions.l.length p.actions.cap)∧U.cell? ⟨w.heap.size,4,none⟩=some (.slice p.tables.p p.tables.l.length p.tables.cap)∧U.cell? ⟨w.heap.size,5,none⟩=some (.slice p.control.p p.control.l.length p.control.cap)∧U.cell? ⟨w.heap.size,6,none⟩=some (.slice p.emit.p p.emit.l.length p.emit.cap)∧U.cell? ⟨w.heap.size+1,8,none⟩=some (.slice (some pa) N cap)∧U.cell? pa=some (.int .u8 XR)∧U.cell? ⟨pa.block,pa.off+1,none⟩=some (.int .i64 alw)∧U.cell? ⟨pa.block,pa.off+2,none⟩=some (.int .u64 alh)∧U.cell? ⟨pa.block,pa.off+3,none⟩=some (.int .u64 all)∧U.cell? ⟨pa.block,pa.off+4,none⟩=some (.string ahd)∧U.cell? ⟨pa.block,pa.off+5,none⟩=some (.string anm)∧U.cell? ⟨pa.block,pa.off+6,none⟩=some (.int .i64 aeh)∧U.cell? ⟨pa.block,pa.off+7,none⟩=some (.int .i64 ael)∧U.cell? ⟨pa.block,pa.off+8,none⟩=some (.slice ap an ac)∧Xo W U) (exact Vn.out _ auz) (first|(go_at_call 115;refine (KG (kS.out _ auA)).mono ?_;rintro e w' ⟨rfl,x,rfl,hk⟩;first|(obtain⟨t0,t1,t2,t3,t4,t5,t6,t7,t8,t9,ta,tb⟩:=hk _ atQ;clear hk;try simp only[World.size_alloc]at t0 t1 t2 t3 t4 t5 t6 t7 t8 t9 ta tb)|skip));all_goals
   go_wp2_with fail;go_meet;refine⟨_,rfl,rfl,?_,asF⟩;first|exact Eb _ _ _ asF asF asF|exact⟨(YI _ _ _ _ _ rfl).trans rfl,(YI _ _ _ _ _ rfl).trans rfl,(YI _ _ _ _ _ rfl).trans rfl⟩
 case rest =>
  open Z renaming als→ze in exact tL):P:=h
def aeD(h:P:=by
 have c8:=ce 8 (some (.slice ep 0 cap)) rfl;have r0:=cr 0 (some (.int .i64 0)) rfl;have r1:=cr 1 (some (.bool false)) rfl;have r2:=cr 2 (some (.bool false)) rfl;have q1:=Zf (ZK Yn kL'.out);have hE:=Zf Yn;clear eW Yn cg ce cr kL';go_wp2_with (first|(go_at_call 181;with_reducible refine (q1.out _).mono ?_;rintro r w' ⟨rfl,x,rfl⟩));exact sL):P:=h
def aeE(h:P:=by
 have c8:=ce 8 (some (.slice ep en ec)) rfl;have q1:=Zf (ZK Yn kO'.out);have hz:=Zf Yn;clear eW Yn cg ce kO';go_upto_region 2 with (first|(go_at_call 115;with_reducible refine (q1.out _).mono ?_;rintro r w' ⟨rfl,x,rfl⟩))
 clear q1 g0 g1 g2 g3 g4 g5 g6;open Z renaming akP→AY in exact tj):P:=h
def LX(h:P:=by
 go_upto_region 3 with (fail)
 refine Wz asC asC ?_;repeat (go_big_quiet_step (first|(with_reducible exact q1.out _)|(with_reducible exact q2.out _)))
 exact Lf):P:=h
def aeF(h:P:=by
 refine wpQuiet_nil ?_;rintro _ ⟨y2,rfl⟩;exact pm):P:=h
def aeG(h:P:=by
 refine wpQuiet_nil ?_;rintro _ ⟨y3,rfl⟩;go_wp2;exact Hb):P:=h
def aeH(h:P:=by
 refine wpQuiet_nil ?_;rintro _ ⟨y3,rfl⟩;exact sF):P:=h
def PH(h:P:=by
 have hR:=Zf (VB ⟨zX,ZE⟩ (show V.heap.size≤V.heap.size+1+1 by omega) cc fc);have qka:=Zf (Tt (Ro ZE ka'.out));exact Pk):P:=h
def aeI(h:P:=by
 open Z renaming apE→Pn in exact PQ):P:=h
def aeJ(h:P:=by
 have qko:=Zf (Tt (Ro ZE ko'.out));open Z renaming apF→Pn in exact PQ):P:=h
def aeK(h:P:=by
 have qko:=Zf (Tt (Ro ZE ko'.out));open Z renaming apG→Pn in exact PQ):P:=h
def aeL(h:P:=by
 have qkd:=Zf (Tt (Ro ZE kd'.out));open Z renaming apH→Pn in exact PQ):P:=h
def aeM(h:P:=by
 have qkd:=Zf (Tt (Ro ZE kd'.out));have qko:=Zf (Tt (Ro ZE ko'.out));open Z renaming apI→Pn in exact PQ):P:=h
def aeN(h:P:=by
 have qkd:=Zf (Tt (Ro ZE kd'.out));have qko:=Zf (Tt (Ro ZE ko'.out));open Z renaming apJ→Pn in exact PQ):P:=h
def aeO(h:P:=by
 have qko:=Zf (Tt (Ro ZE ko'.out));open Z renaming apK→Pn in exact PQ):P:=h
def aeP(h:P:=by
 have qko:=Zf (Tt (Ro ZE ko'.out));open Z renaming apL→Pn in exact PQ):P:=h
def Mr(h:P:=by
 have h2:p.sz=p.headers.size Hr.sz+p.metas.size Fd.sz+p.states.size Sa.sz+p.actions.size Ac.sz+p.tables.size Ta.sz+p.control.size St.sz+p.emit.size Y1:=rfl;exact NL):P:=h
def aeQ(h:P:=by
 have h3:p.headers.size Hr.sz=(p.headers.l.map Hr.sz).sum:=rfl;have h4:x.fields.size Fd.sz≤x.sz:=atg;exact F0 _ x.fields s w (h.headers.kids x hx).fields (Xk Fd.sz Fd.sz_pos x.fields asB)):P:=h
def aeR(h:P:=by
 have h3:p.actions.size Ac.sz=(p.actions.l.map Ac.sz).sum:=rfl;have h4:x.params.size Fd.sz≤x.sz:=ath;exact F0 _ x.params s w (h.actions.kids x hx).params (Xk Fd.sz Fd.sz_pos x.params asB)):P:=h
def aeS(h:P:=by
 have h3:p.headers.size Hr.sz=(p.headers.l.map Hr.sz).sum:=rfl;have h4:x.fields.size Fd.sz≤x.sz:=atg;exact Xk Fd.sz Fd.sz_pos x.fields asB):P:=h
def aeT(h:P:=by
 have h3:p.actions.size Ac.sz=(p.actions.l.map Ac.sz).sum:=rfl;have h4:x.params.size Fd.sz≤x.sz:=ath;exact Xk Fd.sz Fd.sz_pos x.params asB):P:=h
def aeU(h:P:=by
 have h3:p.headers.size Hr.sz=(p.headers.l.map Hr.sz).sum:=rfl;have h4:x.fields.size Fd.sz≤x.sz:=atg;exact FT _ w x.fields (h.headers.kids x hx).fields (Xk Fd.sz Fd.sz_pos x.fields asB) s):P:=h
def aeV(h:P:=by
 have h3:p.actions.size Ac.sz=(p.actions.l.map Ac.sz).sum:=rfl;have h4:x.params.size Fd.sz≤x.sz:=ath;exact FT _ w x.params (h.actions.kids x hx).params (Xk Fd.sz Fd.sz_pos x.params asB) s):P:=h
def LY(h:P:=by
 intro y0;have hb:=ZS hb y0;obtain⟨V,hV⟩:=ZB (plus w y0);rw[hV]at hb ⊢;clear hV;have hl:=World.block_lt_of_cell? V _ hb;have hb2:=fun X:Obj=>YG hb X;clear hb;exact Lg):P:=h
def aeW(h:P:=by
 go_enter func152,ntmps152;exact LW):P:=h
def aeX(h:P:=by
 go_enter func199,ntmps199;exact LW):P:=h
def aeY(h:P:=by
 go_enter func150,ntmps150;exact LW):P:=h
def aeZ(h:P:=by
 go_enter func154,ntmps154;exact LW):P:=h
def ae0(h:P:=by
 go_enter func157,ntmps157;exact LW):P:=h
def vi(h:P:=by
 have KQ:=Zf hmain;have YM:=Zf h0;have ZR:=Zf hR;have Yi:=Zf hb;have Yo:=Zf hc;obtain⟨p,cap,ll⟩:=L;simp only[Sl.v]at KQ ⊢;generalize ll.length=n1 at KQ ⊢;clear hmain h0 hR hb hc ZF hz hs hw hS XQ ih;refine callsIn_of_wp func78 rfl trivial ?_ rfl;simp only[ntmps78,List.size_toArray,Zk,Zl,Nat.reduceAdd,Nat.reduceSub,Array.replicate_succ,Array.replicate_zero,List.push_toArray,List.append_toArray,List.nil_append,List.cons_append];gi_wp2;exact BS):P:=h
def ae1(h:P:=by
 have hA:=(Kq.alloc S W (.cells #[yv l] 133)).trans (Kq.alloc S _ (.cells #[.int .i64 a] 3));obtain⟨b1,b2,bs⟩:=xD W (yv l) (.int .i64 a) 133 3;have e:=Yo.out;refine⟨trivial,rfl,CallsIn.mono (by rw[e]at b1 b2 bs ⊢;exact KQ.out _ hA b1 b2 (by rw[bs];omega) (UB ZR.out.lays (UB ZR.out.lays YM.out _) _)) ?_⟩;exact ur):P:=h
def ae2(h:P:=by
 have o1:=(JK Yi.out W rfl (yv l) 133).up asD (Kr.alloc S _ (.cells #[.int .i64 a] 3));have o2:=JK (S:=S) (fun b h=>Zu (Yi.out b h) asD) (W.alloc (.cells #[yv l] 133)) rfl (.int .i64 a) 3;rw[World.size_alloc]at o2;have hA:=(Kr.alloc S W (.cells #[yv l] 133)).trans (Kr.alloc S _ (.cells #[.int .i64 a] 3));obtain⟨b1,b2,bs⟩:=xD W (yv l) (.int .i64 a) 133 3;have e:=Yo.out;refine⟨trivial,rfl,CallsIn.mono (by rw[e]at o1 o2 bs ⊢;exact KQ.out _ hA o1 o2 (by rw[bs];omega) (UB ZR.out.lays (UB ZR.out.lays YM.out _) _)) ?_⟩;exact ur):P:=h
def vj(h:P:=by
 refine wpIn_rangeFunc ?_;intro fn hfn;rw[show Ze.round=none from rfl];obtain⟨rec,hrec⟩:∃rec:LoopState→Option Code→Loop,rec=fun st pe=>{ state:=st,pending:=pe,fn,tmps:=a.tmps,params:=ps,assign,body,defers:=w.heap.size }:=⟨_,rfl⟩;obtain⟨W1,Y8⟩:=ZB ((w.alloc (.deferred (some []))).alloc (.loop (rec .ready none)));have hL1:W1.heap[w.heap.size+1]?=some (.loop (rec .ready none)):=by
  exact ajP
 have hK1:W1.heap[w.heap.size]?=some (.deferred (some [])):=by
  exact ajX
 exact BT):P:=h
def ae3(h:P:=by
 have hq1:∀T,Kq T w W1:=fun T=>by rw[←Y8];exact (Kq.alloc T w _).trans (Kq.alloc T _ _)
 have TJ:I 0 W1:=hI 0 (w.heap.size+1) w W1 asB h0 (hq1 _);have ZQ:W1.heap.size=w.heap.size+2:=by rw[←Y8];simp
 refine⟨w.heap.size+1,[{ target:=.collected w.heap.size,args:=#[] }],W1,{ target:=.fn (.func gf) lb,args:=#[.func (.yield (w.heap.size+1)) #[] #[]] },W1,gf,
  #[.func (.yield (w.heap.size+1)) #[] #[]]++lb,W1,?_,?_,?_,?_,KN 0,?_⟩
 ·rw[←Y8,hrec];exact run_enterLoop_outer _ _ _ _ _
 ·simp only[resolve,hg]
  simp[go_sem]
 ·intro f' Wi;trivial
 ·simp[invoke,go_sem,eg]
 ·refine (hseq (w.heap.size+1)
   (fun k W=>I k W∧W.heap[w.heap.size+1]?=some (.loop (rec .ready none))∧W.heap[w.heap.size]?=some (.deferred (some [])))
   (fun _ W=>Ix W∧W.heap[w.heap.size+1]?=some (.loop (rec .done (some .ret)))∧W.heap[w.heap.size]?=some (.deferred (some [])))
   W1 asB asB (hq1 _) (fun k W y h=>⟨hI k (w.heap.size+1) W _ asB h.1 (Kq.plus _ W y),UN h.2.1 y,UN h.2.2 y⟩) ?_ ⟨TJ,hL1,hK1⟩).mono ?_
  ·rintro k x W hx ⟨hi,hl,hk⟩
   open Z renaming aiF→Ax in exact uu
  ·rintro e W2 ⟨⟨v,rfl⟩,(⟨⟨hi,hl,hk⟩,_⟩|⟨_,hi,hl,hk⟩)⟩
   ·exact⟨none,_,at0,hdone _ _ (Zt _) (hI _ (w.heap.size+1) _ _ asB hi (Kq.putObj _ hl rfl rfl rfl)) ((World.putObj_heap_other asB).trans hk)⟩
   ·exact⟨some .ret,_,at0,hstop _ _ (Zt _) (hIx (w.heap.size+1) _ _ asB hi (Kq.putObj _ hl rfl rfl rfl)) ((World.putObj_heap_other asB).trans hk)⟩):P:=h
def ae4(h:P:=by
 have hq1:∀T,Kr T w W1:=fun T=>by rw[←Y8];exact (Kr.alloc T w _).trans (Kr.alloc T _ _)
 have ho1:Ko w.heap.size w W1:=by rw[←Y8];exact (Ko.alloc (Zt _) _).trans (Ko.alloc (by simp) _)
 have TJ:I 0 W1:=hI 0 w W1 h0 ho1;have ZQ:W1.heap.size=w.heap.size+2:=by rw[←Y8];simp
 refine⟨w.heap.size+1,[{ target:=.collected w.heap.size,args:=#[] }],W1,{ target:=.fn (.func gf) lb,args:=#[.func (.yield (w.heap.size+1)) #[] #[]] },W1,gf,
  #[.func (.yield (w.heap.size+1)) #[] #[]]++lb,W1,?_,?_,?_,?_,KN 0,?_⟩
 ·rw[←Y8,hrec];exact run_enterLoop_outer _ _ _ _ _
 ·simp only[resolve,hg]
  simp[go_sem]
 ·intro f' Wi;trivial
 ·simp[invoke,go_sem,eg]
 ·refine (hseq (w.heap.size+1)
   (fun k W=>I k W∧W.heap[w.heap.size+1]?=some (.loop (rec .ready none))∧W.heap[w.heap.size]?=some (.deferred (some [])))
   (fun _ W=>Ix W∧W.heap[w.heap.size+1]?=some (.loop (rec .done (some .ret)))∧W.heap[w.heap.size]?=some (.deferred (some [])))
   W1 asB asB hq1 (fun k W y h=>⟨hI k W _ h.1 (Ko.plus (Nat.le_of_lt (Nat.lt_of_succ_lt (Array.getElem?_eq_some_iff.1 h.2.1).1)) y),UN h.2.1 y,UN h.2.2 y⟩) ?_ ⟨TJ,hL1,hK1⟩).mono ?_
  ·rintro k x W hx ⟨hi,hl,hk⟩
   open Z renaming aiG→Ax in exact uu
  ·rintro e W2 ⟨⟨v,rfl⟩,(⟨⟨hi,hl,hk⟩,_⟩|⟨_,hi,hl,hk⟩)⟩
   ·exact⟨none,_,at0,hdone _ _ (Zt _) (hI _ _ _ hi (Ko.putObj _ hl rfl rfl (Nat.le_succ _))) ((World.putObj_heap_other asB).trans hk)⟩
   ·exact⟨some .ret,_,at0,hstop _ _ (Zt _) (hIx _ _ hi (Ko.putObj _ hl rfl rfl (Nat.le_succ _))) ((World.putObj_heap_other asB).trans hk)⟩):P:=h
def vk(h:P:=by
 have hc:=ZN.out▸hc.plus z;have q3:=ZK ZN.out (ih'.out a (Zo ha));have ZQ:(a.ok&&(args.drop (k+1)).all Ex.ok)=R:=by rw[←U9 Ex.ok args k a ha];exact hs.out
 obtain⟨Z,hZ⟩:=ZB a.ok;rw[hZ]at q3 ZQ;obtain⟨eop,⟨elw,elh,ell⟩,ehd,enm,eeh,eel,ep,ecap,eargs⟩:=a;have q3:Wo Zx W 205 #[.agg #[.int .u8 eop,.int .i64 elw,.int .u64 elh,.int .u64 ell,.string ehd,.string enm,.int .i64 eeh,.int .i64 eel,.slice ep eargs.length ecap]] (.bool Z):=q3;exact BU):P:=h
def ae5(h:P:=by
 open Z renaming aqx→N6 in exact MI):P:=h
def ae6(h:P:=by
 open Z renaming aqy→N6 in exact MI):P:=h
def vm(h:P:=by
 rw[hU];rw[hV]at UP;have g0:=UP 0 _ rfl;simp only[Zv]at g0;have g1:=UP 1 _ rfl;simp only[Zv]at g1;have g2:=UP 2 _ rfl;simp only[Zv]at g2;have g3:=UP 3 _ rfl;simp only[Zv]at g3;have g4:=UP 4 _ rfl;simp only[Zv]at g4;have g5:=UP 5 _ rfl;simp only[Zv]at g5;have g6:=UP 6 _ rfl;simp only[Zv]at g6;have g7:=UP 7 _ rfl;simp only[Zv]at g7;have g8:=UP 8 _ rfl;simp only[Zv]at g8;exact BV):P:=h
def ae7(h:P:=by
 have Ol:∀b,w.heap.size+2≤b→U.heap[b]?=W1.heap[b]?:=fun b hb=>by
  rw[←hV];exact (Ny _ _ _ b asB).trans (Below.heap_setCell _ _ _ b asX)
 have hplus:∃z,U=plus w z:=by
  obtain⟨z,h⟩:=TC.out;refine Yy ?_;rw[←hV];refine Below.trans ?_ (Oc (Nat.le_succ _) _ _ _);rw[h];exact (Xl w z).setCell (p:=⟨w.heap.size,8,none⟩) (Zt _) _
 clear hU hV UP a0 a1 a2 a3 a4 a5 a6 a7 a8 b0 b1 b2 b3 b4 b5 b6 b7 b8;obtain⟨Yj,VX,Xw,SE,XQ,Oh⟩:=hL'.out;have XP:=hXs'.out;have Oj:∀y∈l',y.In U∧WP (w.heap.size+2) U y:=fun y hy=>M2 (fun b cur fz hb hh=>(Ol b hb).trans hh) y (Xw y hy).1 (WP.mono asB (Xw y hy).2);have hown2:0<l'.length→∃a cur fz,q=some a∧w.heap.size+2≤a.block∧U.heap[a.block]?=some (.cells cur 45 fz):=fun h=>by
  obtain⟨a,cur,fz,h1,h2,h3⟩:=VX h;exact⟨a,cur,fz,h1,asB,(Ol _ asB).trans h3⟩
 have hrow2:Xa U 9 Ex.cells q l':=fun i y hy=>by
  obtain⟨a,ha,hc⟩:=Yj i y hy;obtain⟨a2,cur,fz,h1,h2,h3⟩:=hown2 (by have:=(Zi.1 hy).1;omega);rw[h1]at ha;obtain rfl:=Option.some.inj ha;exact⟨a2,h1,fun j v hj=>(World.cell?_of_block (show U.heap[((a2.add (i*9)).add j).block]?=W1.heap[((a2.add (i*9)).add j).block]? from by rw[Qi,Qi];exact Ol _ h2)).trans (hc j v hj)⟩
 obtain⟨w1,w2,w3,w4,w5,w6⟩:=hwf.out;exact bodyPost_ret (v:=.agg #[.int .u8 op,.int .i64 lw,.int .u64 lh,.int .u64 ll,.string hd,.string nm,.int .i64 eh,.int .i64 el,.slice q l'.length d]) (by simp[results,Tryz.results97,go_sem,g0,g1,g2,g3,g4,g5,g6,g7,g8]) rfl ⟨Ex.mk op ⟨lw,lh,ll⟩ hd nm eh el q d l',rfl,hplus,.mk _ w1 w2 w3 w4 w5 w6 XQ Oh hrow2 (fun y hy=>(Oj y hy).1),.mk _ (fun h=>by obtain⟨a,cur,fz,h1,h2,h3⟩:=hown2 h;exact⟨a,cur,fz,h1,by omega,h3⟩) (fun y hy=>(Oj y hy).2.mono asB),Yi.out q d l' SE⟩):P:=h
def ae8(h:P:=by
 have g9:=UP 9 _ rfl;simp only[Zv]at g9;have g10:=UP 10 _ rfl;simp only[Zv]at g10;have g11:=UP 11 _ rfl;simp only[Zv]at g11;have g12:=UP 12 _ rfl;simp only[Zv]at g12;have g13:=UP 13 _ rfl;simp only[Zv]at g13;have hplus:∃z,U=plus w z:=by
  obtain⟨z,h⟩:=Te.out.up;refine Yy ?_;rw[←hV];refine Below.trans ?_ (Oc (Nat.le_succ _) _ _ _);rw[h];exact Xl w z
 have Oj:∀b,w.heap.size+2≤b→b<w1.heap.size→U.heap[b]?=w1.heap[b]?:=fun b hb ZC=>by
  rw[←hV];refine (Ny _ _ _ b asB).trans ((Below.heap_setCell _ _ _ b asX).trans ?_);obtain⟨ob,ho⟩:∃o,w1.heap[b]?=some o:=⟨_,Array.getElem?_eq_getElem ZC⟩;have o2:=(hh2'.out b hb).trans ho;have o3:w3.heap[b]?=some ob:=by rw[hx2'.out];exact ((Xl w2 x2).block b (Array.getElem?_eq_some_iff.1 o2).1).trans o2
  have o4:=(hh4'.out b hb).trans o3;have o5:w5.heap[b]?=some ob:=by rw[hx3'.out];exact ((Xl w4 x3).block b (Array.getElem?_eq_some_iff.1 o4).1).trans o4
  exact o5.trans ho.symm
 clear hU hV UP fc fr c0 r0 c1 r1 c2 r2 c3 r3 c4 r4 c5 r5 c6 r6 c7 r7 c8 r8 c9 r9 c10 r10 c11 r11 c12 r12 c13 r13;subst hen2;exact bodyPost_ret (v:=.agg #[.int .u8 kd,.string hd,.string nm,.int .u8 op2,.int .i64 lw2,.int .u64 lh2,.int .u64 ll2,.string ehd2,.string enm2,.int .i64 eh2,.int .i64 el2,.slice ep2 args2.length ec2,.slice q tn d,.slice r un f]) (by simp[results,Tryz.results33,go_sem,g0,g1,g2,g3,g4,g5,g6,g7,g8,g9,g10,g11,g12,g13]) rfl ⟨op2,lw2,lh2,ll2,ehd2,enm2,eh2,el2,ep2,args2,ec2,q,d,r,f,rfl,hplus,X,w1,hsz1.out,hq.out,Oj⟩):P:=h
def vo(h:P:=by
 have l1:(e1 p).length=(p.headers.l.map OG).sum:=QP _ _ (fun a x=>H0 a x) _ _;have l2:(e2 p).length=(p.metas.l.map fun _=>1).sum:=QP (fun a (_:Fd)=>[It.num 3 a 0]) (fun _=>1) (fun _ _=>rfl) _ _;have l3:(e3 p).length=(p.states.l.map OH).sum:=QP _ _ (fun a x=>H1 a x) _ _;have l4:(e4 p).length=(p.actions.l.map QY).sum:=QP _ _ (fun a x=>HY a x) _ _;have l5:(e5 p).length=(p.tables.l.map OI).sum:=QP _ _ (fun a x=>H4 a x) _ _;exact BW):P:=h
def ae9(h:P:=by
 have l6:=CV (-1) p.control.l;have l7:(e7 p).length=(p.emit.l.map fun _=>1).sum:=QP (fun a (_:ByteArray)=>[It.num 15 a 0]) (fun _=>1) (fun _ _=>rfl) _ _;have s1:=Pz OG Hr.sz p.headers.l fun x _=>by have:=XM Fd.sz (fun y=>by unfold Fd.sz;omega) x.fields.l;unfold OG Hr.sz Sl.size;omega
 have s2:=Pz (fun _=>1) Fd.sz p.metas.l fun x _=>atm;have s3:=Pz OH Sa.sz p.states.l fun x _=>by have:=XM Y1 (fun y=>by unfold Y1;omega) x.takes.l;have:=XM Ca.sz (fun y=>by unfold Ca.sz;omega) x.cases.l;unfold OH Sa.sz Sl.size;omega
 have s4:=Pz QY Ac.sz p.actions.l fun x _=>by have:=XM Fd.sz (fun y=>by unfold Fd.sz;omega) x.params.l;have:=CV 0 x.body.l;unfold QY Ac.sz Sl.size;omega
 have s5:=Pz OI Ta.sz p.tables.l fun x _=>by have:=XM Ke.sz (fun y=>by unfold Ke.sz;omega) x.keys.l;have:=XM Y1 (fun y=>by unfold Y1;omega) x.actions.l;unfold OI Ta.sz Sl.size;omega
 have s7:=Pz (fun _=>1) Y1 p.emit.l fun x _=>as8;unfold Yh;simp only[Zj];unfold e6;omega):P:=h
def afa(h:P:=by
 have l7:(e7 p).length=(p.emit.l.map fun _=>1).sum:=QP (fun a (_:ByteArray)=>[It.num 15 a 0]) (fun _=>1) (fun _ _=>rfl) _ _;have XQ:(Yh p).length=0+(e1 p).length+(e2 p).length+(e3 p).length+(e4 p).length+(e5 p).length+(e6 p).length+(e7 p).length:=by
  unfold Yh;simp only[Zj];omega
 rw[XQ];exact zG):P:=h
def vq(h:P:=by
 refine (callsIn_wide (n:=0)).1 ?_;refine callsIn_of_wp_marks func17 rfl trivial ?_ rfl;simp only[ntmps17,List.size_toArray,Zk,Zl,Nat.reduceAdd,Nat.reduceSub,Array.replicate_succ,Array.replicate_zero,List.push_toArray,List.append_toArray,List.nil_append,List.cons_append];gi_wp2;obtain⟨W3,WZ,⟨T0,ZY⟩,cp,c2,c3,hs3⟩:=aal V _ _ _ 30 3 33;rw[WZ];have qm:=(ZK ZY ND.out) ⟨#[],W3.drawn⟩;rw[Yk]at qm;have Qs:=Zf ZY;exact BX):P:=h
def afb(h:P:=by
 clear ZY WZ;open Z renaming aje→AD in exact uE):P:=h
def afc(h:P:=by
 clear ZY WZ cp;open Z renaming ajf→AD in exact uE):P:=h
def R8(h:P:=by
 have hF:=Zf (show (true)=R by first|exact hR|(rw[←hR];simp[q1,q2]));exact RN):P:=h
def vr(h:P:=by
 intro y0;obtain⟨V,hV⟩:=ZB (plus w y0);rw[hV]at ⊢;clear hV;open Z renaming aj2→AL in exact uO):P:=h
def afd(h:P:=by
 have g26:a0≤26:=asB;obtain⟨R,hR⟩:=ZB ((!((a8n:Int) !=2))&&((a4.toList==[])&&((a5.toList==[])&&(((a1==0)&&((a2==0)&&(a3==0)))&&((a6==0)&&(a7==0))))));rw[hR];by_cases q1:((a8n:Int) !=2)=true
 case neg =>
  have q1:((a8n:Int) !=2)=false:=asJ;exact DN
 case pos =>
  exact Hj):P:=h
def afe(h:P:=by
 have g26:¬a0≤26:=asB;exact qd):P:=h
def Ms(h:P:=by
 simp only[Zs,List.take_zero,Zg,Zh];repeat (go_big_quiet_step (fail))
 refine wpQuiet_nil ?_;rintro _ ⟨y1,rfl⟩;exact NM):P:=h
def aff(h:P:=by
 by_cases YH:r1=0
 ·subst YH
  simp only[if_true]at Vf;go_wp2_with fail;refine (l1.out X2 y1).mono ?_;rintro r w' ⟨rfl,x1,rfl⟩;rw[ZD];obtain⟨y2,hy2⟩:=ZB ((⟨ZH.blocks y1++ZH.blocks x1,ZH.draws x1⟩:ZH):ZH);rw[hy2];clear hy2 l1;rw[show Yl 0 (.tuple #[])=.returned (.tuple #[]) from rfl];go_upto_region 5 with (fail)
  open Z renaming amd→G7 in exact DC
 ·rw[if_neg YH]at Vf
  go_wp2_with fail;refine (l1.out X2 y1).mono ?_;rintro r w' ⟨rfl,x1,rfl⟩;rw[ZD];rw[show Yl r1 (.tuple #[])=YJ r1 by rw[Yl,if_neg YH]];go_wp2;exact⟨rfl,by rw[Qk _ k r1 Vf.out Tv.out YH,Yl,if_neg YH],QU.out _⟩):P:=h
def afg(h:P:=by
 by_cases YH:r1=0
 ·subst YH
  go_wp2_with fail;refine (l1.out X2 y1).mono ?_;rintro r w' ⟨rfl,x1,rfl⟩;rw[ZD];rw[show Yl 0 (.tuple #[])=.returned (.tuple #[]) from rfl];go_wp2;refine⟨⟨i+1,ZC,congrArg (Zz .i64) a6.out,QU.out _,fun j y hj hy=>?_⟩,Y9 i n ZC a6.out⟩;by_cases UQ:j<i
  ·exact Tv.out j y UQ hy
  ·obtain rfl:j=i:=by omega
   rw[Vf.out]at hy;exact (Option.some.inj hy).symm
 ·go_wp2_with fail
  refine (l1.out X2 y1).mono ?_;rintro r w' ⟨rfl,x1,rfl⟩;rw[ZD];rw[show Yl r1 (.tuple #[])=YJ r1 by rw[Yl,if_neg YH]];go_wp2;exact⟨rfl,by rw[Qk _ i r1 Vf.out Tv.out YH,Yl,if_neg YH],QU.out _⟩):P:=h
def afh(h:P:=by
 go_wp2_with fail;refine (kt'.out _ ⟨y1,rfl⟩).mono ?_;rintro r w' ⟨rfl,x1,rfl⟩;rw[ZD];go_wp2;exact⟨rfl,rfl,⟨_,rfl⟩⟩):P:=h
def afi(h:P:=by
 go_wp2_with fail;refine (kc'.out _ ⟨_,atB⟩).mono ?_;rintro e w' (⟨rfl,hF⟩|⟨rfl,hG⟩)
 ·have WT:=Zf hF
  clear hF;go_wp2;go_end0;exact .inl ⟨rfl,WT.out⟩
 ·have WJ:=Zf hG
  clear hG;go_wp2;exact⟨rfl,.inr ⟨rfl,WJ.out⟩⟩):P:=h
def afj(h:P:=by
 by_cases r0:R=0
 ·subst r0
  go_wp2_with fail;refine (Fg kc'.out ⟨_,atB⟩).mono ?_;rintro r w' ⟨rfl,x2,rfl⟩;rw[show Yl 0 (.tuple #[])=.returned (.tuple #[]) from rfl];exact tK
 ·exact amo):P:=h
def afk(h:P:=by
 go_wp2_with fail;refine (kt'.out _ ⟨y1,rfl⟩).mono ?_;rintro r w' ⟨rfl,x1,rfl⟩;rw[ZD];rw[show Yl 0 (.agg #[.int .i64 tw,.bool tt,.bool tf])=.returned (.agg #[.int .i64 tw,.bool tt,.bool tf]) from rfl];go_wp2_with fail;refine (Xr.out V _).mono ?_;rintro r w' ⟨rfl,x2,rfl⟩;rw[ZD];clear kt' Xr;exact Fa):P:=h
def EU(h:P:=by
 skip
 have h1:args.all (Ex.there (YP p act))=R:=by rw[←ZR.out,←Th.out,VQ,hN,Bool.true_and]
 have YM:=Zf (show (args.drop 0).all (Ex.there (YP p act))=R from h1);clear h1 VQ Th ZR hN;exact Gt):P:=h
def afl(h:P:=by
 go_wp2_with (first|(go_at_call 118;with_reducible refine (q3.out _).mono ?_;rintro r w' ⟨rfl,x,rfl⟩));exact Hc):P:=h
def afm(h:P:=by
 go_wp2_with (first|(go_at_call 177;with_reducible refine (q4.out _).mono ?_;rintro r w' ⟨rfl,x,rfl⟩));exact Hc):P:=h
def afn(h:P:=by
 open Z renaming Hc→GV in exact Dt):P:=h
def Q3(h:P:=by
 intro y0;have kt:=kt.up y0;obtain⟨V,hV⟩:=ZB (plus w y0);rw[hV]at kt ⊢;clear hV;have kt':=Zf kt;clear kt;exact QV):P:=h
def afo(h:P:=by
 go_enter func100,ntmps100;go_upto_region 1 with (fail)
 obtain⟨X,Y0,hX,⟨zX,ZE⟩,ca,cb⟩:=Xu V _ _ 90 45;open Z renaming anw→WL in exact WO):P:=h
def afp(h:P:=by
 go_enter func101,ntmps101;go_upto_region 1 with (fail)
 obtain⟨X,Y0,hX,⟨zX,ZE⟩,ca,cb⟩:=Xu V _ _ 90 47;open Z renaming anz→WL in exact WO):P:=h
def afr(h:P:=by
 go_enter func101,ntmps101;go_upto_region 1 with (fail)
 obtain⟨X,Y0,hX,⟨zX,ZE⟩,ca,cb⟩:=Xu V _ _ 90 47;open Z renaming anA→WL in exact WO):P:=h
def afs(h:P:=by
 open Z renaming ak1→Jk in exact IY):P:=h
def aft(h:P:=by
 open Z renaming ak2→Jk in exact IY):P:=h
def afu(h:P:=by
 open Z renaming ak3→Jk in exact IY):P:=h
def afv(h:P:=by
 open Z renaming ajm→Ln in exact L8):P:=h
def afw(h:P:=by
 open Z renaming ajn→Ln in exact L8):P:=h
def afx(h:P:=by
 open Z renaming ajo→Ln in exact L8):P:=h
def SW(h:P:=by
 have hF:=Zf (show (true)=R by first|exact hR|(rw[←hR];simp[q1]));exact SJ):P:=h
def afy(h:P:=by
 clear hR;clear h0 h1;go_enter func136,ntmps136;exact Hq):P:=h
def afz(h:P:=by
 clear hR;clear h0 h1;go_enter func175,ntmps175;exact Hq):P:=h
def vy(h:P:=by
 intro y0;have ka:=ka.up y0;have kd:=kd.up y0;have ko:=ko.up y0;have ma:=ma.plus y0;have md:=md.plus y0;obtain⟨V,hV⟩:=ZB (plus w y0);rw[hV]at ka kd ko ma md ⊢;clear hV;have ka':=Zf ka;have kd':=Zf kd;have ko':=Zf ko;have ma':=Zf ma;have md':=Zf md;clear ka kd ko ma md;go_enter func28,ntmps28;go_upto_region 1 with (fail)
 obtain⟨X,Y0,hX,⟨zX,ZE⟩,-,ca,cb,cc,fc⟩:=Tb V _ _ _ 90 45 75;exact B0):P:=h
def afA(h:P:=by
 open Z renaming anu→WL in exact WO):P:=h
def afB(h:P:=by
 open Z renaming anv→WL in exact WO):P:=h
def Mt(h:P:=by
 have ct0:=ct 0 _ rfl;have ct1:=ct 1 _ rfl;have ct2:=ct 2 _ rfl;have ct3:=ct 3 _ rfl;have ct4:=ct 4 _ rfl;have qh1:=Zf (ZK X9 YA.out);exact NN):P:=h
def afC(h:P:=by
 have ZY:=Zf X9;clear hU hB ct hz9 Yn X9 UU YA Yo Vc Yv X7;rw[←Yk U];have hv:=Ws.out;clear Ws;go_upto_region 3 with (fail)
 open Z renaming arP→TD in exact TG):P:=h
def afD(h:P:=by
 have ZY:=Zf X9;clear hU hB ct hz9 Yn X9 UU YA Yo Vc Yv X7;rw[←Yk U];have hv:=Ws.out;clear Ws;subst hv;go_upto_region 5 with (fail)
 open Z renaming arQ→TD in exact TG):P:=h
def afE(h:P:=by
 have qh2:=Zf (ZK X9 Xg.out);have ZY:=Zf X9;clear hU hB ct hz9 Yn X9 UU YA Xg Yo Vc Yv X7;rw[←Yk U];have hv:=Ws.out;clear Ws;go_upto_region 9 with (fail)
 open Z renaming arR→TD in exact TG):P:=h
def afF(h:P:=by
 have qh2:=Zf (ZK X9 Xg.out);have ZY:=Zf X9;clear hU hB ct hz9 Yn X9 UU YA Xg Yo Yv;rw[←Yk U];have hv:=Ws.out;clear Ws;rcases hJ with j1|j1
 ·replace hv:=Zf hv
  subst j1;exact ry
 ·replace hv:=Zf hv
  obtain⟨j1,rfl⟩:=j1;exact ry):P:=h
def afG(h:P:=by
 have qh2:=Zf (ZK X9 Xg.out);have ZY:=Zf X9;clear hU hB ct hz9 Yn X9 UU YA Xg Yo hc3' Yv QS;rw[←Yk U];have hv:=Ws.out;clear Ws;go_upto_region 17 with (first|(go_at_call 44;with_reducible refine (qh1.out _).mono ?_;rintro r w' ⟨rfl,x,rfl⟩)|(go_at_call 179;with_reducible refine (qh2.out _).mono ?_;rintro r w' ⟨rfl,x,rfl⟩))
 refine Wz asC asC ?_;repeat (go_big_quiet_step (first|fail))
 refine wpQuiet_nil ?_;rintro _ ⟨y27,rfl⟩;by_cases i1:gn<an
 ·rw[if_pos i1]at hv
  replace hv:=Zf hv;have i2:(gn:Int)<(an:Int):=asB;exact Kg
 ·rw[if_neg i1]at hv
  have i2:¬(gn:Int)<(an:Int):=asB;go_upto_region 19 with (first|(go_at_call 44;with_reducible refine (qh1.out _).mono ?_;rintro r w' ⟨rfl,x,rfl⟩)|(go_at_call 179;with_reducible refine (qh2.out _).mono ?_;rintro r w' ⟨rfl,x,rfl⟩))
  refine Wz asC asC ?_;repeat (go_big_quiet_step (first|fail))
  refine wpQuiet_nil ?_;rintro _ ⟨y29,rfl⟩;by_cases i3:an<gn
  ·rw[if_pos i3]at hv
   replace hv:=Zf hv;have i4:(an:Int)<(gn:Int):=asB;exact Kg
  ·rw[if_neg i3]at hv
   replace hv:=Zf hv;have i4:¬(an:Int)<(gn:Int):=asB;exact Kg):P:=h
def afH(h:P:=by
 have ZY:=Zf X9;clear hU hB ct hz9 Yn X9 UU YA Yo Yv;rw[←Yk U];have hv:=Ws.out;clear Ws;by_cases e0:(xt.toList==([]:List UInt8))=true
 ·rw[if_pos e0]at hv
  have e2:xt.toList.isEmpty=true:=by simpa using e0
  have YM:=Zf (show (ks.drop 0).all (Ex.there F)=v from hv);have hrU:=Zf (show Xa U 9 Ex.cells kp ks from by rw[ZY.out];exact Wf.out.plus zU);have hkU:=Zf (fun e (he:e∈ks)=>ZK ZY.out (TP.out e he));have ZO:=Zf hkl;have Yt:=Zf hkb;clear hv Wf TP hkl hkb qh1;go_wp2;go_loopw [10] (fun iv wr=>∃ZT:Nat,ZT≤kn∧iv=.int .i64 (ZT:Int)∧Hid ((ks.drop ZT).all (Ex.there F)=v)∧∃y,wr=plus U y) (fun iv _=>kn-(intOf iv).toNat)
  case atStart=>exact⟨0,Zw _,rfl,YM,_,rfl⟩
  case round =>
   obtain⟨ZT,Yp,rfl,hs,y,rfl⟩:=hrel;by_cases ZC:ZT<kn
   ·obtain⟨e,he⟩:=Yq ks ZT asG
    obtain⟨a,hap,hc⟩:=hrU.out ZT e he;have ZV:e∈ks:=Zo he;have ZQ:(e.there F&&(ks.drop (ZT+1)).all (Ex.there F))=v:=by rw[←xB F ks ZT e he];exact hs.out
    have Qp:=hkU.out e ZV;have Yo:∀y,Yg (plus U y) (a.add (ZT*9)) e.cells:=fun y=>hc.plus y;obtain⟨Z,hZ⟩:=ZB (e.there F);rw[hZ]at Qp ZQ;obtain⟨eop,⟨elw,elh,ell⟩,ehd,enm,eeh,eel,eep,ecap,eargs⟩:=e;have u0:=fun y=>(Yo y).c0 _ rfl;have u1:=fun y=>(Yo y).cs 0 _ rfl;have u2:=fun y=>(Yo y).cs 1 _ rfl;have u3:=fun y=>(Yo y).cs 2 _ rfl;have u4:=fun y=>(Yo y).cs 3 _ rfl;have u5:=fun y=>(Yo y).cs 4 _ rfl;have u6:=fun y=>(Yo y).cs 5 _ rfl;have u7:=fun y=>(Yo y).cs 6 _ rfl;have u8:=fun y=>(Yo y).cs 7 _ rfl;simp only[Ex.op,Ex.lit,Ex.head,Ex.name,Ex.hi,Ex.lo,Ex.p,Ex.cap,Ex.args]at Qp u0 u1 u2 u3 u4 u5 u6 u7 u8;have hkid2':=Zf Qp;have a6:=Zf (Y7 ZT kn ZC Yt.out);rw[hap];clear Yo hc Qp ZV he hZ hs;cases Z with
    | true =>
     have ZP:=Zf (show (ks.drop (ZT+1)).all (Ex.there F)=v by rw[←ZQ,Bool.true_and]);clear ZQ;go_upto_region 13 with (fail)
     refine Wz asC asC ?_;repeat (go_big_quiet_step (first|(with_reducible exact hkid2'.out _)))
     refine wpQuiet_nil ?_;rintro _ ⟨y9,rfl⟩;go_wp2;go_roundw
     case rel=>exact⟨ZT+1,ZC,congrArg (Zz .i64) a6.out,ZP,_,rfl⟩
     case measure=>exact Y9 ZT kn ZC a6.out
    | false =>
     have ZP:=Zf (show false=v by rw[←ZQ,Bool.false_and]);clear ZQ;go_upto_region 13 with (fail)
     refine Wz asC asC ?_;repeat (go_big_quiet_step (first|(with_reducible exact hkid2'.out _)))
     refine wpQuiet_nil ?_;rintro _ ⟨y9,rfl⟩;go_wp2;go_ret;exact⟨congrArg (fun z=>Zd (Zy z)) ZP.out,asK⟩
   ·obtain rfl:ZT=kn:=by omega
    have ZP:=Zf (show true=v by rw[←hs.out,List.drop_of_length_le asV];rfl);clear hs ZC Yp;go_wp2;go_ret;exact⟨congrArg (fun z=>Zd (Zy z)) ZP.out,asK⟩
 ·rw[if_neg e0]at hv
  have e1:(xt.toList==([]:List UInt8))=false:=by simpa using e0
  have e2:xt.toList.isEmpty=false:=by simpa using e0
  clear e0 Wf TP hkl hkb;subst hv;go_wp2_with (first|(go_at_call 176;with_reducible refine (qh1.out _).mono ?_;rintro r w' ⟨rfl,x,rfl⟩));exact Uk):P:=h
def vA(h:P:=by
 have hR:=Zf (VB ⟨zX,ZE⟩ (show V.heap.size≤V.heap.size+1+1 by omega) cc fc);have qk:=Zf (Tt (Ro ZE k'.out));have ZY:=Zf ZE;clear hX ca cb cc fc ZE k';subst h0;go_wp2_with fail;refine (qk.out _ (EB _)).mono ?_;rintro r w' ⟨rfl,x0,rfl⟩;clear qk;rw[ZD];obtain⟨x1,hx1⟩:=ZB ((⟨ZH.blocks Y0++ZH.blocks x0,ZH.draws x0⟩:ZH):ZH);rw[hx1];clear hx1;exact B7):P:=h
def afI(h:P:=by
 have YS:=hR.out x1;open Z renaming aju→NS in exact Mx):P:=h
def Iu(h:P:=by
 have g0:=ca 0 _ rfl;have g1:=ca 1 _ rfl;have g2:=ca 2 _ rfl;have g3:=ca 3 _ rfl;have g4:=ca 4 _ rfl;have g5:=ca 5 _ rfl;have g6:=ca 6 _ rfl;exact K4):P:=h
def afJ(h:P:=by
 have q1:=Zf (ZK ZE YA.out);have q2:=Zf (ZK ZE Xg.out);have u1:=YR ZE Yo.out;have u2:=YR ZE hd2'.out;have d0:=fun y=>(u1.plus y).c0 _ rfl;have d1:=fun y=>(u1.plus y).cs 0 _ rfl;have e0:=fun y=>(u2.plus y).c0 _ rfl;have e1:=fun y=>(u2.plus y).cs 0 _ rfl;have hz:=Zf ZE;clear hX ca ZE u1 u2 YA Xg Yo hd2';have Sg:¬((k:Int)<0):=asB;have KR:¬((i:Int)<0):=asB;go_upto_region 2 with (first|(go_at_call 87;with_reducible refine (q1.out _).mono ?_;rintro r w' ⟨rfl,x,rfl⟩))
 refine Wz asC asC ?_;repeat (go_big_quiet_step (first|(with_reducible exact q2.out _)))
 exact wW):P:=h
def afK(h:P:=by
 have q1:=Zf (ZK ZE YA.out);have u2:=YR ZE hd2'.out;have e0:=fun y=>(u2.plus y).c0 _ rfl;have e1:=fun y=>(u2.plus y).cs 0 _ rfl;have hz:=Zf ZE;clear hX ca ZE u2 YA hd2';have KR:¬((i:Int)<0):=asB;refine Wz asC asC ?_;repeat (go_big_quiet_step (first|(with_reducible exact q1.out _)))
 exact wW):P:=h
def afL(h:P:=by
 have g7:=ca 7 _ rfl;have b0:=cb 0 _ rfl;have b1:=cb 1 _ rfl;have b2:=cb 2 _ rfl;have b3:=cb 3 _ rfl;have b4:=cb 4 _ rfl;have b5:=cb 5 _ rfl;have b6:=cb 6 _ rfl;have b7:=cb 7 _ rfl;have b8:=cb 8 _ rfl;exact WL):P:=h
def afM(h:P:=by
 have g7:=ca 7 _ rfl;have g8:=ca 8 _ rfl;have g9:=ca 9 _ rfl;have g10:=ca 10 _ rfl;have g11:=ca 11 _ rfl;have g12:=ca 12 _ rfl;have g13:=ca 13 _ rfl;have g14:=ca 14 _ rfl;have g15:=ca 15 _ rfl;have g16:=ca 16 _ rfl;exact Jw):P:=h
def L0(h:P:=by
 have q0c:=Zf (ZK hz h0.out);have q1c:=Zf (ZK hz h1.out);have ZN:=Zf hz;clear hW hz cb0;refine (q0c.out _).mono ?_;rintro r w' ⟨rfl,x1,rfl⟩;exact Lh):P:=h
def afN(h:P:=by
 go_wp2_with (first|(go_at_call 194;with_reducible refine (q1c.out _).mono ?_;rintro r w' ⟨rfl,x,rfl⟩));exact XO):P:=h
def afO(h:P:=by
 go_wp2_with (first|(go_at_call 131;with_reducible refine (q1c.out _).mono ?_;rintro r w' ⟨rfl,x,rfl⟩));exact XO):P:=h
def afP(h:P:=by
 go_wp2_with (first|(go_at_call 122;with_reducible refine (q1c.out _).mono ?_;rintro r w' ⟨rfl,x,rfl⟩));exact XO):P:=h
def afQ(h:P:=by
 go_wp2_with (first|(go_at_call 205;with_reducible refine (q1c.out _).mono ?_;rintro r w' ⟨rfl,x,rfl⟩));exact XO):P:=h
def afR(h:P:=by
 go_wp2_with (first|(go_at_call 109;with_reducible refine (q1c.out _).mono ?_;rintro r w' ⟨rfl,x,rfl⟩));exact XO):P:=h
def vC(h:P:=by
 have hf:=fun x hx=>(hf x hx).up y0;obtain⟨V,hV⟩:=ZB (plus w y0);simp only[hV]at hf hr ⊢;clear hV h hz;have Wi:=Zf hf;have XV:=Zf hr;clear hf hr;obtain⟨R,hR⟩:=ZB (X5 p i s);rw[hR];have ZR:=Zf hR;clear hR;obtain⟨A,hA⟩:=ZB p.headers;have YV:=Zf hA;rw[hA];clear hA;obtain⟨ap,ac,al⟩:=A;obtain⟨n,hn⟩:=ZB al.length;simp only[hn];have ZO:=Zf hn;clear hn;exact B8):P:=h
def afS(h:P:=by
 go_enter func83,ntmps83;open Z renaming ahB→Aj in exact vT):P:=h
def afT(h:P:=by
 go_enter func120,ntmps120;open Z renaming ahC→Aj in exact vT):P:=h
def vD(h:P:=by
 have hf:=fun x hx=>(hf x hx).up y0;obtain⟨V,hV⟩:=ZB (plus w y0);simp only[hV]at hf hr ⊢;clear hV h hz;have Wi:=Zf hf;have XV:=Zf hr;clear hf hr;obtain⟨R,hR⟩:=ZB (WN p i s);rw[hR];have ZR:=Zf hR;clear hR;obtain⟨A,hA⟩:=ZB p.actions;have YV:=Zf hA;rw[hA];clear hA;obtain⟨ap,ac,al⟩:=A;obtain⟨n,hn⟩:=ZB al.length;simp only[hn];have ZO:=Zf hn;clear hn;exact B9):P:=h
def afU(h:P:=by
 go_enter func91,ntmps91;open Z renaming ahD→Ak in exact vU):P:=h
def afV(h:P:=by
 go_enter func177,ntmps177;open Z renaming ahE→Ak in exact vU):P:=h
def Iv(h:P:=by
 refine wpAnyH_done asC ?_ _;have HB5:=Zf B5;clear B5;go_wp2;obtain⟨zu,hzu⟩:=HZU.out;have gge:∀g,kv.ownBlock=some g→V.heap.size≤g:=fun g e=>(HNE.out g e).1;exact K5):P:=h
def afW(h:P:=by
 have hq5:Kq (fun b=>b=cb) V (W5.setCell ⟨cb,7,none⟩ (.slice (some ⟨g,0,none⟩) (k+1) cap)):=Kq.shrink ((((HQU.out.mono fun b h=>.inl h).trans (by rw[hz15];exact Kq.plus _ U Q4)).trans (Kq.grown G3.out fun g e=>.inr (gge g e))).trans (Kq.setCell W5 ⟨cb,7,none⟩ _ (.inl rfl)));exact I9):P:=h
def afX(h:P:=by
 have hq5:Kq (fun b=>b=cb) V (W5.setCell ⟨cb,7,none⟩ (.slice (some ⟨g,0,none⟩) (k+1) cap)):=Kq.shrink ((((HQU.out.mono fun b h=>.inl h).trans (by rw[hz20];exact Kq.plus _ U UG)).trans (Kq.grown G3.out fun g e=>.inr (gge g e))).trans (Kq.setCell W5 ⟨cb,7,none⟩ _ (.inl rfl)));exact I9):P:=h
def afY(h:P:=by
 have hq5:Kq (fun b=>b=cb) V (W5.setCell ⟨cb,7,none⟩ (.slice (some ⟨g,0,none⟩) (k+1) cap)):=Kq.shrink ((((HQU.out.mono fun b h=>.inl h).trans (by rw[hz24];exact Kq.plus _ U SY)).trans (Kq.grown G3.out fun g e=>.inr (gge g e))).trans (Kq.setCell W5 ⟨cb,7,none⟩ _ (.inl rfl)));exact I9):P:=h
def afZ(h:P:=by
 have hq5:Kq (fun b=>b=cb) V (W5.setCell ⟨cb,7,none⟩ (.slice (some ⟨g,0,none⟩) (k+1) cap)):=Kq.shrink ((((HQU.out.mono fun b h=>.inl h).trans (by rw[hz27];exact Kq.plus _ U PM)).trans (Kq.grown G3.out fun g e=>.inr (gge g e))).trans (Kq.setCell W5 ⟨cb,7,none⟩ _ (.inl rfl)));exact I9):P:=h
def Mu(h:P:=by
 rw[hW];have c0_0:=cb0 0 _ rfl;have c0_1:=cb0 1 _ rfl;have c0_2:=cb0 2 _ rfl;have c0_3:=cb0 3 _ rfl;have c0_4:=cb0 4 _ rfl;exact NP):P:=h
def af0(h:P:=by
 have c0_5:=cb0 5 _ rfl;have c0_6:=cb0 6 _ rfl;exact xU):P:=h
def af1(h:P:=by
 have c0_5:=cb0 5 _ rfl;have c0_6:=cb0 6 _ rfl;have c1_0:=cb1 0 _ rfl;have c1_1:=cb1 1 _ rfl;have c1_2:=cb1 2 _ rfl;have q0c:=Zf (ZK hz h0.out);have q1c:=Zf (ZK hz h1.out);have ZN:=Zf hz;clear hW hz cb0 cb1;refine (q0c.out _).mono ?_;rintro r w' ⟨rfl,x1,rfl⟩;go_wp2_with (first|(go_at_call 175;with_reducible refine (q1c.out _).mono ?_;rintro r w' ⟨rfl,x,rfl⟩));exact XO):P:=h
def af2(h:P:=by
 open Z renaming air→OB in exact OZ):P:=h
def af3(h:P:=by
 have c0_5:=cb0 5 _ rfl;open Z renaming adB→Lc in exact LS):P:=h
def af4(h:P:=by
 have c0_5:=cb0 5 _ rfl;have c0_6:=cb0 6 _ rfl;have c0_7:=cb0 7 _ rfl;have c0_8:=cb0 8 _ rfl;exact QW):P:=h
def OX(h:P:=by
 have qh1:=Zf (ZK ZG YA.out);have qh2:=Zf (ZK ZG Xg.out);have ZY:=Zf ZG;clear hW ZG cp ci YA Xg Yo Yv;exact Oz):P:=h
def af5(h:P:=by
 open Z renaming ab6→TT in exact TZ):P:=h
def af6(h:P:=by
 open Z renaming ab7→TT in exact TZ):P:=h
def af7(h:P:=by
 open Z renaming aca→TT in exact TZ):P:=h
def af8(h:P:=by
 have hv:=Ws.out;clear Ws;go_upto_region 4 with (fail)
 open Z renaming arJ→TD in exact TG):P:=h
def af9(h:P:=by
 have hv:=Ws.out;clear Ws;go_upto_region 2 with (fail)
 open Z renaming arO→TD in exact TG):P:=h
def aga(h:P:=by
 open Z renaming acb→TT in exact TZ):P:=h
def agb(h:P:=by
 open Z renaming acf→TT in exact TZ):P:=h
def R9(h:P:=by
 obtain⟨kd,ZI,ZJ,⟨op,⟨lw,lh,ll⟩,hd,nm,eh,el,ep,ec,eargs⟩,tp,tc,thn,up,uc,els⟩:=s;exact RO):P:=h
def agc(h:P:=by
 exact aY _ _ _ _ _ _ _ _ _ _ _ _ _ _ _ _ _ _ _ _ _ _ _ _ _ _ _ _ _ _ _ _ _ kd ZI ZJ _ _ _ _ _ _ _ w (by simp only[St.head]at h0;simp[h0]) k):P:=h
def agd(h:P:=by
 exact aX _ _ _ _ _ _ _ _ _ _ _ _ _ _ _ _ _ _ _ _ _ _ _ _ _ _ _ _ _ _ _ _ _ kd ZI ZJ _ _ _ _ _ _ _ w (by simp only[St.head]at h0;simpa using h0) k):P:=h
def age(h:P:=by
 obtain rfl:kd=1:=ZL;exact aq _ _ _ _ _ _ _ _ _ _ _ _ _ _ _ _ _ _ _ _ _ _ _ _ _ _ _ _ _ _ _ _ _ 1 ZI ZJ _ _ _ _ _ _ K _ w kt kg):P:=h
def agf(h:P:=by
 obtain rfl:kd=2:=ZT;by_cases r0:R=0
 ·subst r0
  rw[if_pos rfl];exact ai _ _ _ _ _ _ _ _ _ _ _ _ _ _ _ _ _ _ _ _ _ _ _ _ _ _ _ _ _ _ _ _ _ 2 ZI ZJ _ _ _ _ _ _ t.w t.tr t.fr w kt
 ·rw[if_neg r0,VH r0]
  rw[VH r0]at kt;exact aj _ _ _ _ _ _ _ _ _ _ _ _ _ _ _ _ _ _ _ _ _ _ _ _ _ _ _ _ _ _ _ _ _ 2 ZI ZJ _ _ _ _ _ _ R w kt):P:=h
def agh(h:P:=by
 obtain rfl:kd=5:=WF;refine ah _ _ _ _ _ _ _ _ _ _ _ _ _ _ _ _ _ _ _ _ _ _ _ _ _ _ _ _ _ _ _ _ _ 5 ZI ZJ _ _ _ _ _ _ _ w ?_;by_cases r0:R=0
 ·subst r0
  rw[if_pos rfl];obtain⟨tw,tt,tf⟩:=t;cases tt with
  | true =>
   simp only[if_true];rw[show Yl 9 (.tuple #[])=YJ 9 from rfl];exact kz _ _ _ _ _ _ _ _ _ _ _ _ _ _ _ _ _ _ _ _ _ _ _ _ _ _ _ _ _ _ _ _ _ tw tf w kt
  | false =>
   simp only[Bool.false_eq_true,if_false];cases tf with
   | true =>
    simp only[if_true];exact kj _ _ _ _ _ _ _ _ _ _ _ _ _ _ _ _ _ _ _ _ _ _ _ _ _ _ _ _ _ _ _ _ _ tw _ w kt (kg (hf rfl).2)
   | false =>
    simp only[Bool.false_eq_true,if_false];exact l9 _ _ _ _ _ _ _ _ _ _ _ _ _ _ _ _ _ _ _ _ _ _ _ _ _ _ _ _ _ _ _ _ _ tw w kt
 ·rw[if_neg r0,VH r0]
  rw[VH r0]at kt;exact ky _ _ _ _ _ _ _ _ _ _ _ _ _ _ _ _ _ _ _ _ _ _ _ _ _ _ _ _ _ _ _ _ _ R w kt):P:=h
def agi(h:P:=by
 exact ao _ _ _ _ _ _ _ _ _ _ _ _ _ _ _ _ _ _ _ _ _ _ _ _ _ _ _ _ _ _ _ _ _ kd ZI ZJ _ _ _ _ _ _ w (beq_eq_false_iff_ne.2 ZL) (beq_eq_false_iff_ne.2 ZT) (beq_eq_false_iff_ne.2 WF)):P:=h
def agj(h:P:=by
 obtain rfl:kd=1:=ZL;obtain⟨yn,yw⟩:=y;exact dt _ _ _ _ _ _ _ _ _ _ _ _ _ _ _ _ _ _ _ _ _ _ _ _ _ _ _ _ _ _ _ _ _ _ _ _ _ _ _ _ (ZI) _ _ _ _ (ZC) _ (hc) (h1) (kg) (Zf (by simp only[St.head]at h0;simp[h0]))):P:=h
def agk(h:P:=by
 obtain rfl:kd=1:=ZL;obtain⟨yn,yw⟩:=y;obtain⟨xn,⟨xp,xc,xl⟩⟩:=x;obtain rfl:xp=some fp:=hfp;exact dq _ _ _ _ _ _ _ _ _ _ _ _ _ _ _ _ _ _ _ _ _ _ _ _ _ _ _ _ _ _ _ _ _ _ _ _ _ _ _ _ (ZI) _ _ _ _ _ _ _ _ _ (ZC) (Ub) _ (hc) (hc2) (h1) (h2) (kg) (Zf (by simp only[St.head]at h0;simpa using h0))):P:=h
def agl(h:P:=by
 obtain rfl:kd=2:=ZT;exact dr _ _ _ _ _ _ _ _ _ _ _ _ _ _ _ _ _ _ _ _ _ _ _ _ _ _ _ _ _ _ _ _ _ _ _ _ _ _ _ _ _ _ _ _ _ _ (ko)):P:=h
def agm(h:P:=by
 obtain rfl:kd=5:=WF;exact dv _ _ _ _ _ _ _ _ _ _ _ _ _ _ _ _ _ _ _ _ _ _ _ _ _ _ _ _ _ _ _ _ _ _ _ _ _ _ _ _ _ (WI n 9) _ _ _ _ _ (ko) (kf)):P:=h
def agn(h:P:=by
 exact du _ _ _ _ _ _ _ _ _ _ _ _ _ _ _ _ _ _ _ _ _ _ _ _ _ _ _ _ _ _ _ _ _ _ _ _ _ _ _ _ _ _ _ (Zf (beq_eq_false_iff_ne.2 ZL)) (Zf (beq_eq_false_iff_ne.2 ZT)) (Zf (beq_eq_false_iff_ne.2 WF))):P:=h
def PI(h:P:=by
 rw[hn,hR];have YV:=Zf hA;have ZO:=Zf hn;have Yt:=Zf hl;have YM:=Zf h0;have Wi:=Zf hf;exact Pl):P:=h
def ago(h:P:=by
 have hg':=Zf hg;clear hA hl hn hR h0 hf hg ;go_enter func105,ntmps105;go_wp2;go_loopw [3] (fun iv wr=>∃k:Nat,k≤n∧iv=.int .i64 (k:Int)∧Hid ((l.drop k).all VO=R)∧∃y,wr=plus W y) (fun iv _=>n-(intOf iv).toNat)
 case atStart=>exact⟨0,Zw _,rfl,YM,⟨#[],W.drawn⟩,(Yk W).symm⟩
 case round =>
  obtain⟨k,hk,rfl,hs,y,rfl⟩:=hrel;by_cases ZC:k<n
  ·obtain⟨a,ha⟩:=Yq l k asG
   obtain⟨pa,rfl,hc⟩:=YV.out k a ha;have ZV:=Zo ha;have ZQ:(VO a&&(l.drop (k+1)).all VO)=R:=by rw[←U9 VO l k a ha];exact hs.out
   have a6:=Zf (Y7 k n ZC Yt.out);have q1:=Wi.out a ZV;have q2:=hg'.out a ZV;obtain⟨an,aw⟩:=a;obtain⟨Z,hZ⟩:=ZB (YK an);obtain⟨Y,hY⟩:=ZB (PF aw);simp only[VO,hZ,hY]at q1 q2 ZQ;have d0:=fun y=>(hc.plus y).c0 _ rfl;have d1:=fun y=>(hc.plus y).cs 0 _ rfl;simp only at d0 d1;have q1':=Zf q1;have q2':=Zf q2;clear q1 q2 hZ hY hc ha hs ZV;cases Z with
   | false =>
    have ZP:=Zf (show false=R by rw[←ZQ];simp);clear ZQ;go_wp2_with (first|(go_at_call 104;refine (q1'.out _).mono ?_;rintro e w' ⟨rfl,x,rfl⟩)|(go_at_call 169;refine (q2'.out _).mono ?_;rintro e w' ⟨rfl,x,rfl⟩));go_ret;exact⟨congrArg (fun z=>Zd (Zy z)) ZP.out,x,rfl⟩
   | true =>
    cases Y with
    | false =>
     have ZP:=Zf (show false=R by rw[←ZQ];simp);clear ZQ;go_wp2_with (first|(go_at_call 104;refine (q1'.out _).mono ?_;rintro e w' ⟨rfl,x,rfl⟩)|(go_at_call 169;refine (q2'.out _).mono ?_;rintro e w' ⟨rfl,x,rfl⟩));go_ret;exact⟨congrArg (fun z=>Zd (Zy z)) ZP.out,x,rfl⟩
    | true =>
     have ZP:=Zf (show (l.drop (k+1)).all VO=R by rw[←ZQ];simp);clear ZQ;go_wp2_with (first|(go_at_call 104;refine (q1'.out _).mono ?_;rintro e w' ⟨rfl,x,rfl⟩)|(go_at_call 169;refine (q2'.out _).mono ?_;rintro e w' ⟨rfl,x,rfl⟩));go_roundw
     case rel=>exact⟨k+1,ZC,congrArg (Zz .i64) a6.out,ZP,x,rfl⟩
     case measure=>exact Y9 k n ZC a6.out
  ·exact TF):P:=h
end Go.Proofs.YtknmeggfokpbjaaGreat.Z
