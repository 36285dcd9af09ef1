/-
  WHAT IS PROVED HERE: a part of the proof (made narrower and merged by program; the parts: Jm).
-/
import Derived.Test.YtknmeggfokpbjaaGreatM41
import Derived.Test.YtknmeggfokpbjaaGreatM42
set_option maxRecDepth 100000
set_option maxHeartbeats 8000000
set_option linter.all false
namespace Go.Proofs.YtknmeggfokpbjaaGreat
open Z
open Go.RowKit Go.Proofs.Tryz
open Ending renaming returned→Zd
open Lib renaming hid→Zf
open List renaming drop_zero→Zh,mem_of_getElem?→Zo
open Nat renaming le_refl→Zt,zero_le→Zw
open Go.Proofs.Tryz renaming prog→Zx
open Value renaming bool→Zy,int→Zz
open Go.RowKit
theorem yQ(p:Pr)(w:World)(h:p.In w)(hz:p.sz≤1048576):Kp Zx w 39 #[.agg p.cells.toArray] (.bool (Vr p)):=by
 intro y0;have h:=h.plus y0;obtain⟨V,hV⟩:=ZB (plus w y0);rw[hV]at h ⊢;clear hV;unfold Pr.sz at hz;have zh:p.headers.size Hr.sz≤1048576:=asB;have zs:p.states.size Sa.sz≤1048576:=asB;have za:p.actions.size Ac.sz≤1048576:=asB;have zt:p.tables.size Ta.sz≤1048576:=asB;have bhn:p.headers.l.length≤1048576:=Xk Hr.sz Em _ zh;have bsn:p.states.l.length≤1048576:=Xk Sa.sz Eo _ zs;have ban:p.actions.l.length≤1048576:=Xk Ac.sz Ek _ za;have btn:p.tables.l.length≤1048576:=Xk Ta.sz Ep _ zt;have c0:=F2 p.metas V h.metas asB;have c1:=JX 8 (Zt _) p.control 1 V asE h.control asB;have c2:=JZ p.emit V h.emit asB;have ch:=fun x (hx:x∈p.headers.l)=>F2 (Hr.fields x) V (h.headers.kids x hx).fields (by have:=U3 zh hx;unfold Hr.sz at this;omega);have cs:=fun x (hx:x∈p.states.l)=>cL x V (h.states.kids x hx) (U3 zs hx);have ca:=fun x (hx:x∈p.actions.l)=>F2 (Ac.params x) V (h.actions.kids x hx).params (by have:=U3 za hx;unfold Ac.sz at this;omega);have cb:=fun x (hx:x∈p.actions.l)=>JX 8 (Zt _) (Ac.body x) 1 V asE (h.actions.kids x hx).body (by have:=U3 za hx;unfold Ac.sz at this;omega);have ct:=fun x (hx:x∈p.tables.l)=>cZ x V (h.tables.kids x hx) (U3 zt hx);have rh:=h.headers.row;have rs:=h.states.row;have ra:=h.actions.row;have rt:=h.tables.row;obtain⟨⟨hp,hc,hl⟩,⟨mp,mc,ml⟩,⟨sp,sc,sl⟩,⟨ap,ac,al⟩,⟨tp,tc,tl⟩,⟨cp,cc,cl⟩,⟨ep,ec,el⟩⟩:=p;simp only[Sl.v]at bhn bsn ban btn c0 c1 c2 ch cs ca cb ct rh rs ra rt;clear h hz zh zs za zt;have e1:∀n:Nat,decide ((0:Int)≤(n:Int))=true:=fun n=>decide_eq_true asB;have hT:Vr ⟨⟨hp,hc,hl⟩,⟨mp,mc,ml⟩,⟨sp,sc,sl⟩,⟨ap,ac,al⟩,⟨tp,tc,tl⟩,⟨cp,cc,cl⟩,⟨ep,ec,el⟩⟩=(((!decide ((8:Int)<(hl.length:Int)))&&((!decide ((16:Int)<(ml.length:Int)))&&((!decide ((sl.length:Int)<1))&&((!decide ((16:Int)<(sl.length:Int)))&&((!decide ((16:Int)<(al.length:Int)))&&((!decide ((8:Int)<(tl.length:Int)))&&(!decide ((8:Int)<(el.length:Int)))))))))&&(hl.all Si&&(sl.all VZ&&(al.all Tr&&(tl.all Tn&&(ml.all VO&&(St.mayB 8 cl&&el.all YK))))))):=by
  simp only[Vr,Xe,OJ,e1,Bool.true_and];ac_rfl
 rw[hT];clear hT e1;show Calls Zx 39 #[.agg #[.slice hp hl.length hc,.slice mp ml.length mc,.slice sp sl.length sc,.slice ap al.length ac,.slice tp tl.length tc,.slice cp cl.length cc,.slice ep el.length ec]] V _
 generalize ml.all VO=s0 at c0 ⊢;generalize St.mayB 8 cl=s1 at c1 ⊢;generalize el.all YK=s2 at c2 ⊢;generalize ml.length=mn at c0 ⊢;generalize cl.length=cn at c1 ⊢;generalize el.length=en at c2 ⊢;obtain⟨hn,hhn⟩:=ZB hl.length;obtain⟨sn,hsn⟩:=ZB sl.length;obtain⟨an,han⟩:=ZB al.length;obtain⟨tn,htn⟩:=ZB tl.length;rw[hhn]at bhn ⊢;rw[hsn]at bsn ⊢;rw[han]at ban ⊢;rw[htn]at btn ⊢;obtain⟨X4,hX4⟩:=ZB (s0&&(s1&&s2));obtain⟨X3,Rd⟩:=ZB (tl.all Tn&&X4);obtain⟨X2,XP⟩:=ZB (al.all Tr&&X3);obtain⟨X1,T9⟩:=ZB (sl.all VZ&&X2);obtain⟨X0,hX0⟩:=ZB (hl.all Si&&X1);obtain⟨G,hG⟩:=ZB ((!decide ((8:Int)<(hn:Int)))&&((!decide ((16:Int)<(mn:Int)))&&((!decide ((sn:Int)<1))&&((!decide ((16:Int)<(sn:Int)))&&((!decide ((16:Int)<(an:Int)))&&((!decide ((8:Int)<(tn:Int)))&&(!decide ((8:Int)<(en:Int)))))))));obtain⟨R,hR⟩:=ZB (G&&X0);obtain⟨C,hC⟩:=ZB (!G);rw[hX4,Rd,XP,T9,hX0,hG,hR];have bhn':=Zf bhn;have bsn':=Zf bsn;have ban':=Zf ban;have btn':=Zf btn;have c0':=Zf c0;have c1':=Zf c1;have c2':=Zf c2;have ch':=Zf ch;have cs':=Zf cs;have ca':=Zf ca;have cb':=Zf cb;have ct':=Zf ct;have rh':=Zf rh;have rs':=Zf rs;have ra':=Zf ra;have rt':=Zf rt;have hhn':=Zf hhn;have hsn':=Zf hsn;have han':=Zf han;have htn':=Zf htn;have hX4':=Zf hX4;have hX3':=Zf Rd;have hX2':=Zf XP;have hX1':=Zf T9;have hX0':=Zf hX0;have WJ:=Zf hG;have ZR:=Zf hR;have YY:=Zf hC;clear bhn bsn ban btn c0 c1 c2 ch cs ca cb ct rh rs ra rt hhn hsn han htn hX4 Rd XP T9 hX0 hG hR hC;go_enter func39,ntmps39;go_upto_region 1 with (fail)
 obtain⟨W,yy,hW,⟨z,hz⟩,cb0⟩:=YO V _ 30;rw[hW];have e0_0:=cb0 0 _ rfl;have e0_1:=cb0 1 _ rfl;have e0_2:=cb0 2 _ rfl;have e0_3:=cb0 3 _ rfl;have e0_4:=cb0 4 _ rfl;have e0_5:=cb0 5 _ rfl;have e0_6:=cb0 6 _ rfl;have q0c:=Zf (ZK hz c0'.out);have q1c:=Zf (ZK hz c1'.out);have q2c:=Zf (ZK hz c2'.out);have ZN:=Zf hz;clear hW hz cb0 c0' c1' c2';go_cut [48] from 9 to 48 (fun v wx=>v=.bool C∧wx=plus W yy)
 case first =>
  by_cases q0:(8:Int)<(hn:Int)
  case pos =>
   have hF:=Zf (show (true)=C by rw[←YY.out,←WJ.out];simp[q0]);go_wp2_with (fail);go_meet;first|exact⟨congrArg Zy hF.out,rfl⟩|exact⟨congrArg Zy (Eq.trans (by simp[q0]) hF.out),rfl⟩
  case neg =>
   by_cases q1:(16:Int)<(mn:Int)
   case pos =>
    have hF:=Zf (show (true)=C by rw[←YY.out,←WJ.out];simp[q0,q1]);go_wp2_with (fail);go_meet;first|exact⟨congrArg Zy hF.out,rfl⟩|exact⟨congrArg Zy (Eq.trans (by simp[q0,q1]) hF.out),rfl⟩
   case neg =>
    by_cases q2:(sn:Int)<1
    case pos =>
     have hF:=Zf (show (true)=C by rw[←YY.out,←WJ.out];simp[q0,q1,q2]);go_wp2_with (fail);go_meet;first|exact⟨congrArg Zy hF.out,rfl⟩|exact⟨congrArg Zy (Eq.trans (by simp[q0,q1,q2]) hF.out),rfl⟩
    case neg =>
     by_cases q3:(16:Int)<(sn:Int)
     case pos =>
      have hF:=Zf (show (true)=C by rw[←YY.out,←WJ.out];simp[q0,q1,q2,q3]);go_wp2_with (fail);go_meet;first|exact⟨congrArg Zy hF.out,rfl⟩|exact⟨congrArg Zy (Eq.trans atW hF.out),rfl⟩
     case neg =>
      by_cases q4:(16:Int)<(an:Int)
      case pos =>
       have hF:=Zf (show (true)=C by rw[←YY.out,←WJ.out];simp[q0,q1,q2,q3,q4]);go_wp2_with (fail);go_meet;first|exact⟨congrArg Zy hF.out,rfl⟩|exact⟨congrArg Zy (Eq.trans (by simp[q0,q1,q2,q3,q4]) hF.out),rfl⟩
      case neg =>
       by_cases q5:(8:Int)<(tn:Int)
       case pos =>
        have hF:=Zf (show (true)=C by rw[←YY.out,←WJ.out];simp[q0,q1,q2,q3,q4,q5]);go_wp2_with (fail);go_meet;first|exact⟨congrArg Zy hF.out,rfl⟩|exact⟨congrArg Zy (Eq.trans (by simp[q0,q1,q2,q3,q4,q5]) hF.out),rfl⟩
       case neg =>
        by_cases q6:(8:Int)<(en:Int)
        case pos =>
         have hF:=Zf (show (true)=C by rw[←YY.out,←WJ.out];simp[q0,q1,q2,q3,q4,q5,q6]);exact pd
        case neg =>
         have hF:=Zf (show (false)=C by rw[←YY.out,←WJ.out];simp[q0,q1,q2,q3,q4,q5,q6]);exact pd
 case rest =>
  obtain⟨rfl,rfl⟩:=hcut;clear WJ;cases G with
  | false =>
   have e:true=C:=YY.out;subst e;have ZP:=Zf (show false=R from ZR.out);clear YY;go_wp2_with fail;go_ret;exact⟨congrArg (fun z=>Zd (Zy z)) ZP.out,asO⟩
  | true =>
   have e:false=C:=YY.out;subst e;have h0:=Zf (show ((hl.drop 0).all Si&&X1)=R by rw[Zh,hX0'.out];exact ZR.out);clear YY hX0' ZR;go_wp2_with fail;go_loopw [3] (fun iv wr=>∃k:Nat,k≤hn∧iv=.int .i64 (k:Int)∧Hid (((hl.drop k).all Si&&X1)=R)∧∃y,wr=plus W y) (fun iv _=>hn-(intOf iv).toNat)
   case atStart=>exact⟨0,Zw _,rfl,h0,_,rfl⟩
   case round =>
    obtain⟨k,hk,rfl,hs,y,rfl⟩:=hrel;by_cases ZC:k<hn
    ·obtain⟨a,ha⟩:=Yq hl k (by rw[hhn'.out];exact ZC)
     obtain⟨pa,rfl,We⟩:=rh'.out k a ha;have ZV:=Zo ha;have ZQ:((Si a&&(hl.drop (k+1)).all Si)&&X1)=R:=by rw[←U9 Si hl k a ha];exact hs.out
     have a6:=Zf (Y7 k hn ZC bhn'.out);have hc:=ZN.out▸We.plus z;clear We;obtain⟨xn,⟨xp,xc,xl⟩⟩:=a;have v0:=SS xn V;have v1:=ch'.out _ ZV;simp only at v0 v1;have d0:=fun y=>(hc.plus y).c0 _ rfl;have d1:=fun y=>(hc.plus y).cs 0 _ rfl;simp only[Sl.v]at d0 d1;simp only[Si,Xe]at ZQ;generalize YK xn=s3 at v0 ZQ;generalize xl.all VO=s4 at v1 ZQ;generalize xl.length=fn at v1 d1 ZQ;obtain⟨P,hP⟩:=ZB (s3&&((!decide ((fn:Int)<1))&&((!decide ((16:Int)<(fn:Int)))&&s4)));obtain⟨Q,hQ⟩:=ZB (!P);have ZQ:(P&&((hl.drop (k+1)).all Si&&X1))=R:=by rw[←ZQ,←hP];simp only[OJ];ac_rfl
     have Xh:=Zf hP;have X6:=Zf hQ;have TR:=Zf ZQ;have v0':=Zf v0;have v1':=Zf v1;clear hP hQ ZQ hc ha hs ZV v0 v1;go_upto_region 7 with (fail)
     obtain⟨W2,y3,XJ,⟨Xt,ZG⟩,cx⟩:=YO (plus W y) _ 66;rw[XJ];have x0:=cx 0 _ rfl;have x1:=cx 1 _ rfl;obtain⟨T0,ZY⟩:∃z,W2=plus W z:=⟨_,ZG.trans (ZD _ _ _)⟩;obtain⟨Ul,Uf⟩:∃z,W2=plus V z:=⟨_,by rw[ZY,ZN.out,ZD]⟩;have u0c:=Zf (ZK Uf v0'.out);have u1c:=Zf (ZK Uf v1'.out);have Qs:=Zf ZY;have Sj:=Zf Uf;clear XJ cx ZG ZY Uf v0' v1';go_cut [82] from 49 to 82 (fun v wx=>v=.bool Q∧∃y,wx=plus W2 y)
     case first =>
      cases s3
      case false =>
       have hF:=Zf (show (true)=Q by rw[←X6.out,←Xh.out];simp);go_wp2_with (first|(go_at_call 104;with_reducible refine (u0c.out _).mono ?_;rintro r w' ⟨rfl,x,rfl⟩));go_meet;first|exact⟨congrArg Zy hF.out,_,rfl⟩|exact⟨congrArg Zy (Eq.trans asD hF.out),_,rfl⟩
      case true =>
       by_cases u1:(fn:Int)<1
       case pos =>
        have hF:=Zf (show (true)=Q by rw[←X6.out,←Xh.out];simp[u1]);go_wp2_with (first|(go_at_call 104;with_reducible refine (u0c.out _).mono ?_;rintro r w' ⟨rfl,x,rfl⟩));go_meet;first|exact⟨congrArg Zy hF.out,_,rfl⟩|exact⟨congrArg Zy (Eq.trans (by simp[u1]) hF.out),_,rfl⟩
       case neg =>
        by_cases u2:(16:Int)<(fn:Int)
        case pos =>
         have hF:=Zf (show (true)=Q by rw[←X6.out,←Xh.out];simp[u1,u2]);go_wp2_with (first|(go_at_call 104;with_reducible refine (u0c.out _).mono ?_;rintro r w' ⟨rfl,x,rfl⟩));go_meet;first|exact⟨congrArg Zy hF.out,_,rfl⟩|exact⟨congrArg Zy (Eq.trans (by simp[u1,u2]) hF.out),_,rfl⟩
        case neg =>
         cases s4
         case false =>
          have hF:=Zf (show (true)=Q by rw[←X6.out,←Xh.out];simp[u1,u2]);go_wp2_with (first|(go_at_call 104;with_reducible refine (u0c.out _).mono ?_;rintro r w' ⟨rfl,x,rfl⟩)|(go_at_call 105;with_reducible refine (u1c.out _).mono ?_;rintro r w' ⟨rfl,x,rfl⟩));go_meet;first|exact⟨congrArg Zy hF.out,_,rfl⟩|exact⟨congrArg Zy (Eq.trans (by simp[u1,u2]) hF.out),_,rfl⟩
         case true =>
          have hF:=Zf (show (false)=Q by rw[←X6.out,←Xh.out];simp[u1,u2]);go_wp2_with (first|(go_at_call 104;with_reducible refine (u0c.out _).mono ?_;rintro r w' ⟨rfl,x,rfl⟩)|(go_at_call 105;with_reducible refine (u1c.out _).mono ?_;rintro r w' ⟨rfl,x,rfl⟩));go_meet;first|exact⟨congrArg Zy hF.out,_,rfl⟩|exact⟨congrArg Zy (Eq.trans (by simp[u1,u2]) hF.out),_,rfl⟩
     case rest =>
      obtain⟨rfl,y4,rfl⟩:=hcut;clear Xh u0c u1c;cases P with
      | false =>
       have e:true=Q:=X6.out;subst e;have ZP:=Zf (show false=R from TR.out);clear X6;go_wp2_with fail;go_ret;exact⟨congrArg (fun z=>Zd (Zy z)) ZP.out,atb⟩
      | true =>
       have e:false=Q:=X6.out;subst e;have ZP:=Zf (show ((hl.drop (k+1)).all Si&&X1)=R from TR.out);clear X6 TR;go_wp2_with fail;go_roundw
       case rel=>exact⟨k+1,ZC,congrArg (Zz .i64) a6.out,ZP,atX⟩
       case measure=>exact Y9 k hn ZC a6.out
    ·obtain rfl:hn=k:=by omega
     have h0:=Zf (show ((sl.drop 0).all VZ&&X2)=R by rw[Zh,hX1'.out,←hs.out,List.drop_of_length_le (show hl.length≤hn by rw[hhn'.out];exact Zt _)];rfl);clear hs ZC hk;go_wp2_with fail;go_loopw [5] (fun iv wr=>∃k:Nat,k≤sn∧iv=.int .i64 (k:Int)∧Hid (((sl.drop k).all VZ&&X2)=R)∧∃y,wr=plus W y) (fun iv _=>sn-(intOf iv).toNat)
     case atStart=>exact⟨0,Zw _,rfl,h0,_,rfl⟩
     case round =>
      obtain⟨k,hk,rfl,hs,y,rfl⟩:=hrel;by_cases ZC:k<sn
      ·obtain⟨a,ha⟩:=Yq sl k (by rw[hsn'.out];exact ZC)
       obtain⟨pa,rfl,We⟩:=rs'.out k a ha;have ZV:=Zo ha;have ZQ:((VZ a&&(sl.drop (k+1)).all VZ)&&X2)=R:=by rw[←U9 VZ sl k a ha];exact hs.out
       have a6:=Zf (Y7 k sn ZC bsn'.out);have hc:=ZN.out▸We.plus z;clear We;have q1:=ZK ZN.out (cs'.out a ZV);obtain⟨Z,hZ⟩:=ZB (VZ a);rw[hZ]at q1 ZQ;obtain⟨xn,⟨xp,xc,xl⟩,xt,⟨yp,yc,yl⟩,⟨gp,gc,gl⟩⟩:=a;have q1:Wo Zx W 106 #[.agg #[.string xn,.slice xp xl.length xc,.string xt,.slice yp yl.length yc,.slice gp gl.length gc]] (.bool Z):=q1;have d0:=fun y=>(hc.plus y).c0 _ rfl;have d1:=fun y=>(hc.plus y).cs 0 _ rfl;have d2:=fun y=>(hc.plus y).cs 1 _ rfl;have d3:=fun y=>(hc.plus y).cs 2 _ rfl;have d4:=fun y=>(hc.plus y).cs 3 _ rfl;simp only[Sl.v]at d0 d1 d2 d3 d4;have q1':=Zf q1;clear q1 hZ hc ha hs ZV;cases Z with
       | false =>
        have ZP:=Zf (show false=R by rw[←ZQ];simp);clear ZQ;go_wp2_with (go_at_call 106;refine (q1'.out _).mono ?_;rintro e w' ⟨rfl,x,rfl⟩);go_ret;exact⟨congrArg (fun z=>Zd (Zy z)) ZP.out,asO⟩
       | true =>
        have ZP:=Zf (show ((sl.drop (k+1)).all VZ&&X2)=R by rw[←ZQ];simp);clear ZQ;go_wp2_with (go_at_call 106;refine (q1'.out _).mono ?_;rintro e w' ⟨rfl,x,rfl⟩);go_roundw
        case rel=>exact⟨k+1,ZC,congrArg (Zz .i64) a6.out,ZP,_,rfl⟩
        case measure=>exact Y9 k sn ZC a6.out
      ·obtain rfl:sn=k:=by omega
       have h0:=Zf (show ((al.drop 0).all Tr&&X3)=R by rw[Zh,hX2'.out,←hs.out,List.drop_of_length_le (show sl.length≤sn by rw[hsn'.out];exact Zt _)];rfl);clear hs ZC hk;go_wp2_with fail;go_loopw [6] (fun iv wr=>∃k:Nat,k≤an∧iv=.int .i64 (k:Int)∧Hid (((al.drop k).all Tr&&X3)=R)∧∃y,wr=plus W y) (fun iv _=>an-(intOf iv).toNat)
       case atStart=>exact⟨0,Zw _,rfl,h0,_,rfl⟩
       case round =>
        obtain⟨k,hk,rfl,hs,y,rfl⟩:=hrel;by_cases ZC:k<an
        ·obtain⟨a,ha⟩:=Yq al k (by rw[han'.out];exact ZC)
         obtain⟨pa,rfl,We⟩:=ra'.out k a ha;have ZV:=Zo ha;have ZQ:((Tr a&&(al.drop (k+1)).all Tr)&&X3)=R:=by rw[←U9 Tr al k a ha];exact hs.out
         have a6:=Zf (Y7 k an ZC ban'.out);have hc:=ZN.out▸We.plus z;clear We;obtain⟨xn,⟨xp,xc,xl⟩,⟨yp,yc,yl⟩⟩:=a;have v0:=SS xn V;have v1:=ca'.out _ ZV;have v2:=cb'.out _ ZV;simp only at v0 v1 v2;have d0:=fun y=>(hc.plus y).c0 _ rfl;have d1:=fun y=>(hc.plus y).cs 0 _ rfl;have d2:=fun y=>(hc.plus y).cs 1 _ rfl;simp only[Sl.v]at d0 d1 d2;simp only[Tr,Xe]at ZQ;generalize YK xn=s3 at v0 ZQ;generalize xl.all VO=s4 at v1 ZQ;generalize St.mayB 8 yl=s5 at v2 ZQ;generalize xl.length=fn at v1 d1 ZQ;generalize yl.length=gn at v2 d2;obtain⟨P,hP⟩:=ZB (s3&&((!decide ((8:Int)<(fn:Int)))&&(s4&&s5)));obtain⟨Q,hQ⟩:=ZB (!P);have ZQ:(P&&((al.drop (k+1)).all Tr&&X3))=R:=by rw[←ZQ,←hP];rw[show decide ((0:Int)≤(fn:Int))=true from decide_eq_true (by omega)];simp only[OJ,Bool.true_and];ac_rfl
         have Xh:=Zf hP;have X6:=Zf hQ;have TR:=Zf ZQ;have v0':=Zf v0;have v1':=Zf v1;have v2':=Zf v2;clear hP hQ ZQ hc ha hs ZV v0 v1 v2;go_upto_region 18 with (fail)
         obtain⟨W2,y3,XJ,⟨Xt,ZG⟩,cx⟩:=YO (plus W y) _ 72;rw[XJ];have x0:=cx 0 _ rfl;have x1:=cx 1 _ rfl;have x2:=cx 2 _ rfl;obtain⟨T0,ZY⟩:∃z,W2=plus W z:=⟨_,ZG.trans (ZD _ _ _)⟩;obtain⟨Ul,Uf⟩:∃z,W2=plus V z:=⟨_,by rw[ZY,ZN.out,ZD]⟩;have u0c:=Zf (ZK Uf v0'.out);have u1c:=Zf (ZK Uf v1'.out);have u2c:=Zf (ZK Uf v2'.out);have Qs:=Zf ZY;have Sj:=Zf Uf;clear XJ cx ZG ZY Uf v0' v1' v2';go_cut [130] from 97 to 130 (fun v wx=>v=.bool Q∧∃y,wx=plus W2 y)
         case first =>
          cases s3
          case false =>
           have hF:=Zf (show (true)=Q by rw[←X6.out,←Xh.out];simp);go_wp2_with (first|(go_at_call 104;with_reducible refine (u0c.out _).mono ?_;rintro r w' ⟨rfl,x,rfl⟩));go_meet;first|exact⟨congrArg Zy hF.out,_,rfl⟩|exact⟨congrArg Zy (Eq.trans asD hF.out),_,rfl⟩
          case true =>
           by_cases u1:(8:Int)<(fn:Int)
           case pos =>
            have hF:=Zf (show (true)=Q by rw[←X6.out,←Xh.out];simp[u1]);go_wp2_with (first|(go_at_call 104;with_reducible refine (u0c.out _).mono ?_;rintro r w' ⟨rfl,x,rfl⟩));go_meet;first|exact⟨congrArg Zy hF.out,_,rfl⟩|exact⟨congrArg Zy (Eq.trans (by simp[u1]) hF.out),_,rfl⟩
           case neg =>
            cases s4
            case false =>
             have hF:=Zf (show (true)=Q by rw[←X6.out,←Xh.out];simp[u1]);go_wp2_with (first|(go_at_call 104;with_reducible refine (u0c.out _).mono ?_;rintro r w' ⟨rfl,x,rfl⟩)|(go_at_call 105;with_reducible refine (u1c.out _).mono ?_;rintro r w' ⟨rfl,x,rfl⟩));go_meet;first|exact⟨congrArg Zy hF.out,_,rfl⟩|exact⟨congrArg Zy (Eq.trans (by simp[u1]) hF.out),_,rfl⟩
            case true =>
             cases s5
             case false =>
              have hF:=Zf (show (true)=Q by rw[←X6.out,←Xh.out];simp[u1]);go_wp2_with (first|(go_at_call 104;with_reducible refine (u0c.out _).mono ?_;rintro r w' ⟨rfl,x,rfl⟩)|(go_at_call 105;with_reducible refine (u1c.out _).mono ?_;rintro r w' ⟨rfl,x,rfl⟩)|(go_at_call 107;with_reducible refine (u2c.out _).mono ?_;rintro r w' ⟨rfl,x,rfl⟩));go_meet;first|exact⟨congrArg Zy hF.out,_,rfl⟩|exact⟨congrArg Zy (Eq.trans (by simp[u1]) hF.out),_,rfl⟩
             case true =>
              have hF:=Zf (show (false)=Q by rw[←X6.out,←Xh.out];simp[u1]);go_wp2_with (first|(go_at_call 104;with_reducible refine (u0c.out _).mono ?_;rintro r w' ⟨rfl,x,rfl⟩)|(go_at_call 105;with_reducible refine (u1c.out _).mono ?_;rintro r w' ⟨rfl,x,rfl⟩)|(go_at_call 107;with_reducible refine (u2c.out _).mono ?_;rintro r w' ⟨rfl,x,rfl⟩));go_meet;first|exact⟨congrArg Zy hF.out,_,rfl⟩|exact⟨congrArg Zy (Eq.trans (by simp[u1]) hF.out),_,rfl⟩
         case rest =>
          obtain⟨rfl,y4,rfl⟩:=hcut;clear Xh u0c u1c u2c;cases P with
          | false =>
           have e:true=Q:=X6.out;subst e;have ZP:=Zf (show false=R from TR.out);clear X6;go_wp2_with fail;go_ret;exact⟨congrArg (fun z=>Zd (Zy z)) ZP.out,atb⟩
          | true =>
           have e:false=Q:=X6.out;subst e;have ZP:=Zf (show ((al.drop (k+1)).all Tr&&X3)=R from TR.out);clear X6 TR;go_wp2_with fail;go_roundw
           case rel=>exact⟨k+1,ZC,congrArg (Zz .i64) a6.out,ZP,atX⟩
           case measure=>exact Y9 k an ZC a6.out
        ·obtain rfl:an=k:=by omega
         have h0:=Zf (show ((tl.drop 0).all Tn&&X4)=R by rw[Zh,hX3'.out,←hs.out,List.drop_of_length_le (show al.length≤an by rw[han'.out];exact Zt _)];rfl);clear hs ZC hk;go_wp2_with fail;go_loopw [8] (fun iv wr=>∃k:Nat,k≤tn∧iv=.int .i64 (k:Int)∧Hid (((tl.drop k).all Tn&&X4)=R)∧∃y,wr=plus W y) (fun iv _=>tn-(intOf iv).toNat)
         case atStart=>exact⟨0,Zw _,rfl,h0,_,rfl⟩
         case round =>
          obtain⟨k,hk,rfl,hs,y,rfl⟩:=hrel;by_cases ZC:k<tn
          ·obtain⟨a,ha⟩:=Yq tl k (by rw[htn'.out];exact ZC)
           obtain⟨pa,rfl,We⟩:=rt'.out k a ha;have ZV:=Zo ha;have ZQ:((Tn a&&(tl.drop (k+1)).all Tn)&&X4)=R:=by rw[←U9 Tn tl k a ha];exact hs.out
           have a6:=Zf (Y7 k tn ZC btn'.out);have hc:=ZN.out▸We.plus z;clear We;have q1:=ZK ZN.out (ct'.out a ZV);obtain⟨Z,hZ⟩:=ZB (Tn a);rw[hZ]at q1 ZQ;obtain⟨xn,⟨xp,xc,xl⟩,⟨yp,yc,yl⟩,⟨xd,⟨gp,gc,gl⟩⟩⟩:=a;have q1:Wo Zx W 108 #[.agg #[.string xn,.slice xp xl.length xc,.slice yp yl.length yc,.string xd,.slice gp gl.length gc]] (.bool Z):=q1;have d0:=fun y=>(hc.plus y).c0 _ rfl;have d1:=fun y=>(hc.plus y).cs 0 _ rfl;have d2:=fun y=>(hc.plus y).cs 1 _ rfl;have d3:=fun y=>(hc.plus y).cs 2 _ rfl;have d4:=fun y=>(hc.plus y).cs 3 _ rfl;simp only[Sl.v]at d0 d1 d2 d3 d4;have q1':=Zf q1;clear q1 hZ hc ha hs ZV;cases Z with
           | false =>
            have ZP:=Zf (show false=R by rw[←ZQ];simp);clear ZQ;go_wp2_with (go_at_call 108;refine (q1'.out _).mono ?_;rintro e w' ⟨rfl,x,rfl⟩);go_ret;exact⟨congrArg (fun z=>Zd (Zy z)) ZP.out,asO⟩
           | true =>
            have ZP:=Zf (show ((tl.drop (k+1)).all Tn&&X4)=R by rw[←ZQ];simp);clear ZQ;go_wp2_with (go_at_call 108;refine (q1'.out _).mono ?_;rintro e w' ⟨rfl,x,rfl⟩);go_roundw
            case rel=>exact⟨k+1,ZC,congrArg (Zz .i64) a6.out,ZP,_,rfl⟩
            case measure=>exact Y9 k tn ZC a6.out
          ·obtain rfl:tn=k:=by omega
           have h0:=Zf (show X4=R by rw[←hs.out,List.drop_of_length_le (show tl.length≤tn by rw[htn'.out];exact Zt _)];rfl);clear hs ZC hk;go_wp2_with fail;cases s0
           case false =>
            have ZP:=Zf (show false=R from hX4'.out.trans h0.out);go_wp2_with (first|(go_at_call 105;with_reducible refine (q0c.out _).mono ?_;rintro r w' ⟨rfl,x,rfl⟩)|(go_at_call 107;with_reducible refine (q1c.out _).mono ?_;rintro r w' ⟨rfl,x,rfl⟩)|(go_at_call 109;with_reducible refine (q2c.out _).mono ?_;rintro r w' ⟨rfl,x,rfl⟩));go_ret;exact⟨congrArg (fun z=>Zd (Zy z)) ZP.out,asO⟩
           case true =>
            cases s1
            case false =>
             have ZP:=Zf (show false=R from hX4'.out.trans h0.out);go_wp2_with (first|(go_at_call 105;with_reducible refine (q0c.out _).mono ?_;rintro r w' ⟨rfl,x,rfl⟩)|(go_at_call 107;with_reducible refine (q1c.out _).mono ?_;rintro r w' ⟨rfl,x,rfl⟩)|(go_at_call 109;with_reducible refine (q2c.out _).mono ?_;rintro r w' ⟨rfl,x,rfl⟩));go_ret;exact⟨congrArg (fun z=>Zd (Zy z)) ZP.out,asO⟩
            case true =>
             have ZP:=Zf (show s2=R from hX4'.out.trans h0.out);go_wp2_with (first|(go_at_call 105;with_reducible refine (q0c.out _).mono ?_;rintro r w' ⟨rfl,x,rfl⟩)|(go_at_call 107;with_reducible refine (q1c.out _).mono ?_;rintro r w' ⟨rfl,x,rfl⟩)|(go_at_call 109;with_reducible refine (q2c.out _).mono ?_;rintro r w' ⟨rfl,x,rfl⟩));go_ret;exact⟨congrArg (fun z=>Zd (Zy z)) ZP.out,asO⟩
end Go.Proofs.YtknmeggfokpbjaaGreat
