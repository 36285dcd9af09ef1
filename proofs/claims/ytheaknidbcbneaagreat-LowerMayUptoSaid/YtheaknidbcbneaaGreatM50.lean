/-
  WHAT IS PROVED HERE: LowerMay, of arguments of bulk at most 1048576: which lowered programs may be, any code's width in any action, and which runs may be, are the document's. No condition but the bound on the bulk.
-/
import Derived.Carry
import Derived.OpenShut
import Derived.JoinedCond
import Derived.Test.YtheaknidbcbneaaGreatM42
import Derived.Test.YtheaknidbcbneaaGreatM31
import Derived.Test.YtheaknidbcbneaaGreatM49
set_option maxRecDepth 100000
set_option maxHeartbeats 8000000
set_option linter.all false
namespace Go.Proofs.YtheaknidbcbneaaGreat
open Go.RowKit Go.Proofs.Tryz
open Ending renaming returned→Zf
open Lib renaming hid→Zg
open List renaming drop_of_length_le→Zh,getElem?_eq_getElem→Zi,getElem?_eq_some_iff→Zj,mem_of_getElem?→Zl
open Nat renaming le_refl→Zp,zero_le→Zq
open Go.Proofs.Tryz renaming prog→Zr
open Value renaming int→Zt
open Go.RowKit
def Ux:Int→List ZZ→Int
 | n,[]=>n
 | n,x :: r=>Ux (wrap64 (n+(x.e.l.length:Int))) r
theorem FV{n:Int}{l:List ZZ}{k:Nat}{x:ZZ}(hx:l[k]?=some x):Ux n (l.drop k)=Ux (wrap64 (n+(x.e.l.length:Int))) (l.drop (k+1)):=by
 obtain⟨h1,rfl⟩:=Zj.1 hx;rw[List.drop_eq_getElem_cons h1,Ux]
theorem OA(p:Option Addr)(n c:Nat)(l:List ZZ)(w:World)(hl:Z2 w 5 ZZ.cells p l)(hn:l.length=n)(hb:n≤1048576):Kp Zr w 12 #[.slice p n c] (.int .i64 (Ux (n:Int) l)):=by
 intro y0;have hl:=hl.plus y0;obtain⟨V,hV⟩:=Zv (plus w y0);rw[hV]at hl ⊢;clear hV;obtain⟨R,hR⟩:=Zv (Ux (n:Int) l);rw[hR];have ZX:=Zg hl;have ZJ:=Zg hn;have YI:=Zg hb;have hR0:Hid (Ux (n:Int) (l.drop 0)=R):=Zg hR;clear hl hn hb hR;go_enter func12,ntmps12;go_wp2_with fail;go_loopw [3,4] (fun sn iv wr=>∃(k:Nat) (x:Int),k≤n∧sn=.int .i64 x∧iv=.int .i64 (k:Int)∧Hid (Ux x (l.drop k)=R)∧wr=V) (fun _ iv _=>n-(intOf iv).toNat)
 case atStart=>exact⟨0,_,Zq _,rfl,rfl,hR0,rfl⟩
 case round =>
  clear hR0;obtain⟨k,x,hk,rfl,rfl,hs,rfl⟩:=hrel;by_cases Zz:k<n
  ·obtain⟨⟨kd,ia,ib,⟨ep,ec,el⟩,it⟩,hx⟩:∃s,l[k]?=some s:=⟨l[k]'(by rw[ZJ.out];exact Zz),Zi _⟩
   obtain⟨pa,rfl,g1⟩:=ZX.out k _ hx;have ZB:=hs.out;rw[FV hx]at ZB;obtain⟨en,hen⟩:=Zv el.length;have u3:=g1.cs 2 _ rfl;simp only[Sl.v,hen]at u3 ZB;replace ZB:=Zg ZB;have a6:=Zg (Yo k n Zz YI.out);have j0:¬((k:Int)<0):=by omega
   have j1:(k:Int)<(n:Int):=by omega
   clear hx hs g1 hen;go_wp2_with fail;go_roundw
   case rel=>exact⟨k+1,_,Zz,rfl,congrArg (Zt .i64) a6.out,ZB,by first|rfl|trivial⟩
   case measure=>exact YF k n Zz a6.out
  ·obtain rfl:k=n:=by omega
   have hF:=Zg (show x=R by rw[←hs.out,Zh (by rw[ZJ.out];exact Zp _)];rfl);clear hs;go_wp2_with fail;go_ret;exact⟨congrArg (fun z=>Zf (Zt .i64 z)) hF.out,⟨#[],wr.drawn⟩,(ZK _).symm⟩
def SR(V:World)(e:Ending)(w':World):Prop:=∃b:Bool,e=.returned (.bool b)∧∃x,w'=plus V x
theorem HF(q0p:Option Addr)(q0n q0c:Nat)(q1p q1n q1c)(q2p:Option Addr)(q2n q2c:Nat)(q3p:Option Addr)(q3n q3c:Nat)(q4p:Option Addr)(q4n q4c:Nat)(q5p q5n q5c q6p q6n q6c q7p q7n q7c q8p q8n q8c q9p q9n q9c q10p q10n q10c q11p q11n q11c)(heads:List (Sl Int))(steps:List Sp)(acts:List At)(tabs:List Tb)(WC)(wa:At→Int)(w:World)(hH:Z2 w 1 YY q0p heads)(hHn:heads.length=q0n)(hHb:q0n≤1048576)(hC:Kp Zr w 12 #[.slice q5p q5n q5c] (.int .i64 WC))(hS:Z2 w 4 Sp.cells q2p steps)(hSn:steps.length=q2n)(hSb:q2n≤1048576)(hSi:∀s∈steps,s.In w∧s.keys.l.length≤1048576∧s.branches.l.length≤1048576)(hA:Z2 w 2 At.cells q3p acts)(hAn:acts.length=q3n)(hAb:q3n≤1048576)(hAi:∀a∈acts,Kp Zr w 12 #[a.body.v] (.int .i64 (wa a)))(hT:Z2 w 5 Tb.cells q4p tabs)(hTn:tabs.length=q4n)(hTb:q4n≤1048576)(hTi:∀t∈tabs,t.In w∧t.keys.l.length≤1048576) :
  Calls Zr 4 #[.agg #[.slice q0p q0n q0c,.slice q1p q1n q1c,.slice q2p q2n q2c,.slice q3p q3n q3c,.slice q4p q4n q4c,.slice q5p q5n q5c,.slice q6p q6n q6c,.slice q7p q7n q7c,.slice q8p q8n q8c,.slice q9p q9n q9c,.slice q10p q10n q10c,.slice q11p q11n q11c]] w (SR w):=by
 obtain⟨W,yy,hWW,⟨z,hz⟩,cb0⟩:=Ya w #[.slice q0p q0n q0c,.slice q1p q1n q1c,.slice q2p q2n q2c,.slice q3p q3n q3c,.slice q4p q4n q4c,.slice q5p q5n q5c,.slice q6p q6n q6c,.slice q7p q7n q7c,.slice q8p q8n q8c,.slice q9p q9n q9c,.slice q10p q10n q10c,.slice q11p q11n q11c] 33;have c0_0:=cb0 0 _ rfl;have c0_1:=cb0 1 _ rfl;have c0_2:=cb0 2 _ rfl;have c0_3:=cb0 3 _ rfl;have c0_4:=cb0 4 _ rfl;have c0_5:=cb0 5 _ rfl;have c0_6:=cb0 6 _ rfl;have c0_7:=cb0 7 _ rfl;have c0_8:=cb0 8 _ rfl;have c0_9:=cb0 9 _ rfl;have c0_10:=cb0 10 _ rfl;have c0_11:=cb0 11 _ rfl;have hH':Hid (∀(k:Nat) (s:Sl Int),heads[k]?=some s→∃a,q0p=some a∧∀y,ZG (Go.Proofs.YtheaknidbcbneaaGreat.plus W y) (a.add (k*1)) (YY s)):=Zg fun k x hx=>by
  obtain⟨a,hp,hc⟩:=hH k x hx;exact⟨a,hp,fun y=>by rw[hz];exact (hc.plus z).plus y⟩
 have WE:Hid (∀(k:Nat) (s:Sp),steps[k]?=some s→∃a,q2p=some a∧∀y,ZG (Go.Proofs.YtheaknidbcbneaaGreat.plus W y) (a.add (k*4)) s.cells):=Zg fun k x hx=>by
  obtain⟨a,hp,hc⟩:=hS k x hx;exact⟨a,hp,fun y=>by rw[hz];exact (hc.plus z).plus y⟩
 have hSK:Hid (∀s∈steps,∀(k:Nat) (c:Sl Nd),s.keys.l[k]?=some c→∃a,s.keys.p=some a∧∀y,ZG (Go.Proofs.YtheaknidbcbneaaGreat.plus W y) (a.add (k*1)) (YY c)):=Zg fun s hs k x hx=>by
  obtain⟨a,hp,hc⟩:=(hSi s hs).1.keys.row k x hx;exact⟨a,hp,fun y=>by rw[hz];exact (hc.plus z).plus y⟩
 have hSB:Hid (∀s∈steps,∀(k:Nat) (c:Br),s.branches.l[k]?=some c→∃a,s.branches.p=some a∧∀y,ZG (Go.Proofs.YtheaknidbcbneaaGreat.plus W y) (a.add (k*2)) c.cells):=Zg fun s hs k x hx=>by
  obtain⟨a,hp,hc⟩:=(hSi s hs).1.branches.row k x hx;exact⟨a,hp,fun y=>by rw[hz];exact (hc.plus z).plus y⟩
 have ZR:Hid (∀(k:Nat) (s:At),acts[k]?=some s→∃a,q3p=some a∧∀y,ZG (Go.Proofs.YtheaknidbcbneaaGreat.plus W y) (a.add (k*2)) s.cells):=Zg fun k x hx=>by
  obtain⟨a,hp,hc⟩:=hA k x hx;exact⟨a,hp,fun y=>by rw[hz];exact (hc.plus z).plus y⟩
 have Xs:Hid (∀(k:Nat) (s:Tb),tabs[k]?=some s→∃a,q4p=some a∧∀y,ZG (Go.Proofs.YtheaknidbcbneaaGreat.plus W y) (a.add (k*5)) s.cells):=Zg fun k x hx=>by
  obtain⟨a,hp,hc⟩:=hT k x hx;exact⟨a,hp,fun y=>by rw[hz];exact (hc.plus z).plus y⟩
 have hTK:Hid (∀s∈tabs,∀(k:Nat) (c:Sl Nd),s.keys.l[k]?=some c→∃a,s.keys.p=some a∧∀y,ZG (Go.Proofs.YtheaknidbcbneaaGreat.plus W y) (a.add (k*1)) (YY c)):=Zg fun s hs k x hx=>by
  obtain⟨a,hp,hc⟩:=(hTi s hs).1.keys.row k x hx;exact⟨a,hp,fun y=>by rw[hz];exact (hc.plus z).plus y⟩
 have qC:=Zg (Zy hz hC);have qA0:=Zg (fun a ha=>Zy hz (hAi a ha));have hSl:=Zg (fun s hs=>(hSi s hs).2);have hTl:=Zg (fun s hs=>(hTi s hs).2);have ZH:=Zg hWW;have Zw:=Zg hz;have hHn':=Zg hHn;have T0:=Zg hSn;have hAn':=Zg hAn;have Te:=Zg hTn;have hHb':=Zg hHb;have hSb':=Zg hSb;have hAb':=Zg hAb;have hTb':=Zg hTb;clear hWW hz cb0 hH hHn hHb hC hS hSn hSb hSi hA hAn hAb hAi hT hTn hTb hTi;go_enter func4,ntmps4;go_upto_region 1 with (fail)
 rw[ZH.out];go_wp2_with fail;refine ZP (by kernel_rfl) (by kernel_rfl) ?_;repeat (go_big_quiet_step (first|(with_reducible exact qC.out _)|fail))
 refine wpQuiet_nil ?_;rintro _ ⟨yd,rfl⟩;go_wp2_with fail;go_loopw [3,4] (fun s3 iv wr=>∃(a:Nat) (x:Int),a≤q0n∧s3=.int .i64 x∧iv=.int .i64 (a:Int)∧∃y,wr=Go.Proofs.YtheaknidbcbneaaGreat.plus W y) (fun _ iv _=>q0n-(intOf iv).toNat)
 case atStart=>exact⟨0,_,Zq _,rfl,rfl,_,rfl⟩
 case round =>
  obtain⟨a,xa,ha,rfl,rfl,ya,rfl⟩:=hrel;by_cases lta:a<q0n
  case pos =>
   obtain⟨⟨hp,hc,hl⟩,hx⟩:∃s,heads[a]?=some s:=⟨heads[a]'(by rw[hHn'.out];exact lta),Zi _⟩;obtain⟨pa,rfl,g1⟩:=hH'.out a _ hx;obtain⟨hn,hhn⟩:=Zv hl.length;have u0:=fun y=>(g1 y).c0 _ rfl;simp only[Sl.v,YY,hhn,Nat.mul_one]at u0;clear hx g1 hhn;have a6a:=Zg (Yo a q0n lta (by have:=hHb'.out;omega));have j0a:¬((a:Int)<0):=by omega
   have j1a:(a:Int)<(q0n:Int):=by omega
   go_wp2_with fail;go_roundw
   case rel=>exact⟨a+1,_,lta,rfl,congrArg (Zt .i64) a6a.out,_,rfl⟩
   case measure=>exact YF a q0n lta a6a.out
  case neg =>
   obtain rfl:a=q0n:=by omega
   clear ha lta;go_wp2_with fail;go_loopw [3,5,6,7] (fun s3 iv _ _ wr=>∃(b:Nat) (x:Int),b≤q2n∧s3=.int .i64 x∧iv=.int .i64 (b:Int)∧∃y,wr=Go.Proofs.YtheaknidbcbneaaGreat.plus W y) (fun _ iv _ _ _=>q2n-(intOf iv).toNat)
   case atStart=>exact⟨0,_,Zq _,rfl,rfl,_,rfl⟩
   case round =>
    obtain⟨b,xb,hb,rfl,rfl,yb,rfl⟩:=hrel;by_cases ltb:b<q2n
    case pos =>
     obtain⟨⟨⟨tp,tc,tl⟩,⟨kp,kc,kl⟩,⟨bp,bc,bl⟩,dest⟩,hx⟩:∃s,steps[b]?=some s:=⟨steps[b]'(by rw[T0.out];exact ltb),Zi _⟩;obtain⟨pa,rfl,g1⟩:=WE.out b _ hx;obtain⟨tn,htn⟩:=Zv tl.length;obtain⟨kn,hkn⟩:=Zv kl.length;obtain⟨bn,Xa⟩:=Zv bl.length;have hK:=Zg (hSK.out _ (Zl hx));have hB:=Zg (hSB.out _ (Zl hx));have XB:=hSl.out _ (Zl hx);have u0:=fun y=>(g1 y).c0 _ rfl;have u1:=fun y=>(g1 y).cs 0 _ rfl;have u2:=fun y=>(g1 y).cs 1 _ rfl;simp only[Sl.v,htn,hkn,Xa]at u0 u1 u2 XB hK hB;have T5:=Zg hkn;have hbn':=Zg Xa;replace XB:=Zg XB;clear hx g1 htn hkn Xa;have a6b:=Zg (Yo b q2n ltb (by have:=hSb'.out;omega));have j0b:¬((b:Int)<0):=by omega
     have j1b:(b:Int)<(q2n:Int):=by omega
     go_wp2_with fail;refine ZP (by kernel_rfl) (by kernel_rfl) ?_;repeat (go_big_quiet_step (first|fail))
     refine wpQuiet_nil ?_;rintro _ ⟨yd,rfl⟩;go_wp2_with fail;go_loopw [3,6] (fun s3 iv wr=>∃(c:Nat) (x:Int),c≤kn∧s3=.int .i64 x∧iv=.int .i64 (c:Int)∧∃y,wr=Go.Proofs.YtheaknidbcbneaaGreat.plus W y) (fun _ iv _=>kn-(intOf iv).toNat)
     case atStart=>exact⟨0,_,Zq _,rfl,rfl,_,rfl⟩
     case round =>
      obtain⟨c,xc,hc,rfl,rfl,yc,rfl⟩:=hrel;by_cases ltc:c<kn
      case pos =>
       obtain⟨⟨cp,cc,cl⟩,hx⟩:∃s,kl[c]?=some s:=⟨kl[c]'(by rw[T5.out];exact ltc),Zi _⟩;obtain⟨ka,rfl,g1⟩:=hK.out c _ hx;obtain⟨cn,Wa⟩:=Zv cl.length;have w0:=fun y=>(g1 y).c0 _ rfl;simp only[Sl.v,YY,Wa,Nat.mul_one]at w0;clear hx g1 Wa;have a6c:=Zg (Yo c kn ltc (by have:=XB.out.1;omega));have j0c:¬((c:Int)<0):=by omega
       have j1c:(c:Int)<(kn:Int):=by omega
       go_wp2_with fail;go_roundw
       case rel=>exact⟨c+1,_,ltc,rfl,congrArg (Zt .i64) a6c.out,_,rfl⟩
       case measure=>exact YF c kn ltc a6c.out
      case neg =>
       obtain rfl:c=kn:=by omega
       clear hc ltc;go_wp2_with fail;go_loopw [3,7] (fun s3 iv wr=>∃(d:Nat) (x:Int),d≤bn∧s3=.int .i64 x∧iv=.int .i64 (d:Int)∧∃y,wr=Go.Proofs.YtheaknidbcbneaaGreat.plus W y) (fun _ iv _=>bn-(intOf iv).toNat)
       case atStart=>exact⟨0,_,Zq _,rfl,rfl,_,rfl⟩
       case round =>
        obtain⟨d,xd,hd,rfl,rfl,yd,rfl⟩:=hrel;by_cases ltd:d<bn
        case pos =>
         obtain⟨⟨⟨cp,cc,cl⟩,cd⟩,hx⟩:∃s,bl[d]?=some s:=⟨bl[d]'(by rw[hbn'.out];exact ltd),Zi _⟩;obtain⟨ba,rfl,g1⟩:=hB.out d _ hx;obtain⟨cn,Wa⟩:=Zv cl.length;have w0:=fun y=>(g1 y).c0 _ rfl;simp only[Sl.v,Wa]at w0;clear hx g1 Wa;have a6d:=Zg (Yo d bn ltd (by have:=XB.out.2;omega));have j0d:¬((d:Int)<0):=by omega
         have j1d:(d:Int)<(bn:Int):=by omega
         go_wp2_with fail;go_roundw
         case rel=>exact⟨d+1,_,ltd,rfl,congrArg (Zt .i64) a6d.out,_,rfl⟩
         case measure=>exact YF d bn ltd a6d.out
        case neg =>
         obtain rfl:d=bn:=by omega
         clear hd ltd;go_wp2_with fail;go_roundw
         case rel=>exact⟨b+1,_,ltb,rfl,congrArg (Zt .i64) a6b.out,_,rfl⟩
         case measure=>exact YF b q2n ltb a6b.out
    case neg =>
     obtain rfl:b=q2n:=by omega
     clear hb ltb;go_wp2_with fail;go_loopw [3,8] (fun s3 iv wr=>∃(a:Nat) (x:Int),a≤q3n∧s3=.int .i64 x∧iv=.int .i64 (a:Int)∧∃y,wr=Go.Proofs.YtheaknidbcbneaaGreat.plus W y) (fun _ iv _=>q3n-(intOf iv).toNat)
     case atStart=>exact⟨0,_,Zq _,rfl,rfl,_,rfl⟩
     case round =>
      obtain⟨a,xa,ha,rfl,rfl,ya,rfl⟩:=hrel;by_cases lta:a<q3n
      case pos =>
       obtain⟨⟨⟨tp,tc,tl⟩,⟨bp,bc,bl⟩⟩,hx⟩:∃s,acts[a]?=some s:=⟨acts[a]'(by rw[hAn'.out];exact lta),Zi _⟩;obtain⟨pa,rfl,g1⟩:=ZR.out a _ hx;have hq:=qA0.out _ (Zl hx);obtain⟨tn,htn⟩:=Zv tl.length;obtain⟨bn,Xa⟩:=Zv bl.length;have u0:=fun y=>(g1 y).c0 _ rfl;have u1:=fun y=>(g1 y).cs 0 _ rfl;obtain⟨XW,hXW⟩:=Zv (wa ⟨⟨tp,tc,tl⟩,⟨bp,bc,bl⟩⟩:Int);simp only[Sl.v,htn,Xa,hXW]at u0 u1 hq;replace hq:=Zg hq;clear hx g1 htn Xa hXW;have a6a:=Zg (Yo a q3n lta (by have:=hAb'.out;omega));have j0a:¬((a:Int)<0):=by omega
       have j1a:(a:Int)<(q3n:Int):=by omega
       go_wp2_with fail;refine ZP (by kernel_rfl) (by kernel_rfl) ?_;repeat (go_big_quiet_step (first|(with_reducible exact hq.out _)|fail))
       refine wpQuiet_nil ?_;rintro _ ⟨yd,rfl⟩;go_wp2_with fail;go_roundw
       case rel=>exact⟨a+1,_,lta,rfl,congrArg (Zt .i64) a6a.out,_,rfl⟩
       case measure=>exact YF a q3n lta a6a.out
      case neg =>
       obtain rfl:a=q3n:=by omega
       clear ha lta;go_wp2_with fail;go_loopw [3,9,10] (fun s3 iv _ wr=>∃(b:Nat) (x:Int),b≤q4n∧s3=.int .i64 x∧iv=.int .i64 (b:Int)∧∃y,wr=Go.Proofs.YtheaknidbcbneaaGreat.plus W y) (fun _ iv _ _=>q4n-(intOf iv).toNat)
       case atStart=>exact⟨0,_,Zq _,rfl,rfl,_,rfl⟩
       case round =>
        obtain⟨b,xb,hb,rfl,rfl,yb,rfl⟩:=hrel;by_cases ltb:b<q4n
        case pos =>
         obtain⟨⟨⟨kp,kc,kl⟩,⟨tp,tc,tl⟩,⟨bp,bc,bl⟩,⟨ra,⟨xp,xc,xl⟩⟩⟩,hx⟩:∃s,tabs[b]?=some s:=⟨tabs[b]'(by rw[Te.out];exact ltb),Zi _⟩;obtain⟨pa,rfl,g1⟩:=Xs.out b _ hx;obtain⟨tn,htn⟩:=Zv tl.length;obtain⟨kn,hkn⟩:=Zv kl.length;obtain⟨bn,Xa⟩:=Zv bl.length;obtain⟨xn,Wn⟩:=Zv xl.length;have hK:=Zg (hTK.out _ (Zl hx));have XB:=hTl.out _ (Zl hx);have u0:=fun y=>(g1 y).c0 _ rfl;have u1:=fun y=>(g1 y).cs 0 _ rfl;have u2:=fun y=>(g1 y).cs 1 _ rfl;have u3:=fun y=>(g1 y).cs 2 _ rfl;have u4:=fun y=>(g1 y).cs 3 _ rfl;simp only[Sl.v,htn,hkn,Xa,Wn]at u0 u1 u2 u3 u4 XB hK;have T5:=Zg hkn;replace XB:=Zg XB;clear hx g1 htn hkn Xa Wn;have a6b:=Zg (Yo b q4n ltb (by have:=hTb'.out;omega));have j0b:¬((b:Int)<0):=by omega
         have j1b:(b:Int)<(q4n:Int):=by omega
         go_wp2_with fail;refine ZP (by kernel_rfl) (by kernel_rfl) ?_;repeat (go_big_quiet_step (first|fail))
         refine wpQuiet_nil ?_;rintro _ ⟨yd,rfl⟩;go_wp2_with fail;go_loopw [3,10] (fun s3 iv wr=>∃(c:Nat) (x:Int),c≤kn∧s3=.int .i64 x∧iv=.int .i64 (c:Int)∧∃y,wr=Go.Proofs.YtheaknidbcbneaaGreat.plus W y) (fun _ iv _=>kn-(intOf iv).toNat)
         case atStart=>exact⟨0,_,Zq _,rfl,rfl,_,rfl⟩
         case round =>
          obtain⟨c,xc,hc,rfl,rfl,yc,rfl⟩:=hrel;by_cases ltc:c<kn
          case pos =>
           obtain⟨⟨cp,cc,cl⟩,hx⟩:∃s,kl[c]?=some s:=⟨kl[c]'(by rw[T5.out];exact ltc),Zi _⟩;obtain⟨ka,rfl,g1⟩:=hK.out c _ hx;obtain⟨cn,Wa⟩:=Zv cl.length;have w0:=fun y=>(g1 y).c0 _ rfl;simp only[Sl.v,YY,Wa,Nat.mul_one]at w0;clear hx g1 Wa;have a6c:=Zg (Yo c kn ltc (by have:=XB.out;omega));have j0c:¬((c:Int)<0):=by omega
           have j1c:(c:Int)<(kn:Int):=by omega
           go_wp2_with fail;go_roundw
           case rel=>exact⟨c+1,_,ltc,rfl,congrArg (Zt .i64) a6c.out,_,rfl⟩
           case measure=>exact YF c kn ltc a6c.out
          case neg =>
           obtain rfl:c=kn:=by omega
           clear hc ltc;go_wp2_with fail;go_roundw
           case rel=>exact⟨b+1,_,ltb,rfl,congrArg (Zt .i64) a6b.out,_,rfl⟩
           case measure=>exact YF b q4n ltb a6b.out
        case neg =>
         obtain rfl:b=q4n:=by omega
         go_wp2_with fail;go_ret;exact⟨_,rfl,by rw[Zw.out,Zx];exact⟨_,rfl⟩⟩
theorem HE(p:Pg)(w:World)(hp:p.In w)(hz:p.sz≤1048576):Calls Zr 4 #[p.val] w (SR w):=by
 have l0:=Qd hz;have l2:=Yw Sp.sz (fun _=>by unfold Sp.sz;omega) p.steps.l;have l3:=Yw At.sz (fun _=>by unfold At.sz;omega) p.acts.l;have l4:=Yw Tb.sz (fun _=>by unfold Tb.sz;omega) p.tabs.l;have l5:=Yw ZZ.sz (fun _=>by unfold ZZ.sz;omega) p.control.l;unfold Pg.sz Sl.size at hz;exact HF p.heads.p p.heads.l.length p.heads.cap p.metas.p p.metas.l.length p.metas.cap p.steps.p p.steps.l.length p.steps.cap p.acts.p p.acts.l.length p.acts.cap p.tabs.p p.tabs.l.length p.tabs.cap p.control.p p.control.l.length p.control.cap p.emit.p p.emit.l.length p.emit.cap p.names.headers.p p.names.headers.l.length p.names.headers.cap p.names.fields.p p.names.fields.l.length p.names.fields.cap p.names.metas.p p.names.metas.l.length p.names.metas.cap p.names.actions.p p.names.actions.l.length p.names.actions.cap p.names.tables.p p.names.tables.l.length p.names.tables.cap p.heads.l p.steps.l p.acts.l p.tabs.l _ (fun a=>Ux (a.body.l.length:Int) a.body.l) w hp.heads.row rfl l0 (OA _ _ _ p.control.l w hp.control.row rfl (by omega)) hp.steps.row rfl (by omega)
  (fun s hs=>⟨hp.steps.kids s hs,by
   have h1:s.sz≤1048576:=by
    have:=We Sp.sz p.steps.l s hs;omega
   have h2:=Yw (Xk Nd.sz) (fun _=>by unfold Xk;omega) s.keys.l;unfold Sp.sz Sl.size at h1;omega,by
   have h1:s.sz≤1048576:=by
    have:=We Sp.sz p.steps.l s hs;omega
   have h2:=Yw Br.sz (fun _=>by unfold Br.sz;omega) s.branches.l;unfold Sp.sz Sl.size at h1;omega⟩) hp.acts.row rfl (by omega)
  (fun a ha=>OA _ _ _ a.body.l w (hp.acts.kids a ha).body.row rfl (by
   have h1:a.sz≤1048576:=by
    have:=We At.sz p.acts.l a ha;omega
   have h2:=Yw ZZ.sz (fun _=>by unfold ZZ.sz;omega) a.body.l;unfold At.sz Sl.size at h1;omega)) hp.tabs.row rfl (by omega)
  (fun t ht=>⟨hp.tabs.kids t ht,by
   have h1:t.sz≤1048576:=by
    have:=We Tb.sz p.tabs.l t ht;omega
   have h2:=Yw (Xk Nd.sz) (fun _=>by unfold Xk;omega) t.keys.l;unfold Tb.sz Sl.size at h1;omega⟩)
open Go.RowKit Go.Shelf
theorem Ia(q0p q0n q0c q1p q1n q1c q2p q2n q2c q3p q3n q3c q4p q4n q4c q5p q5n q5c q6p q6n q6c q7p q7n q7c q8p q8n q8c q9p q9n q9c q10p q10n q10c q11p q11n q11c act cp cn cc lp ln lc ra xp xn xc R1 R2 MB RB)(w:World)(hG:∀y,Calls Zr 4 #[.agg #[.slice q0p q0n q0c,.slice q1p q1n q1c,.slice q2p q2n q2c,.slice q3p q3n q3c,.slice q4p q4n q4c,.slice q5p q5n q5c,.slice q6p q6n q6c,.slice q7p q7n q7c,.slice q8p q8n q8c,.slice q9p q9n q9c,.slice q10p q10n q10c,.slice q11p q11n q11c]] (plus w y) (SR (plus w y)))(h1:Kp Zr w 6 #[.agg #[.slice q0p q0n q0c,.slice q1p q1n q1c,.slice q2p q2n q2c,.slice q3p q3n q3c,.slice q4p q4n q4c,.slice q5p q5n q5c,.slice q6p q6n q6c,.slice q7p q7n q7c,.slice q8p q8n q8c,.slice q9p q9n q9c,.slice q10p q10n q10c,.slice q11p q11n q11c],.int .i64 act,.slice cp cn cc] (.tuple #[.int .i64 R1,.bool R2]))(h2:Kp Zr w 7 #[.agg #[.slice q0p q0n q0c,.slice q1p q1n q1c,.slice q2p q2n q2c,.slice q3p q3n q3c,.slice q4p q4n q4c,.slice q5p q5n q5c,.slice q6p q6n q6c,.slice q7p q7n q7c,.slice q8p q8n q8c,.slice q9p q9n q9c,.slice q10p q10n q10c,.slice q11p q11n q11c],.int .i64 act,.slice cp cn cc] (.tuple #[.int .i64 R1,.bool R2]))(h3:Kp Zr w 8 #[.agg #[.slice q0p q0n q0c,.slice q1p q1n q1c,.slice q2p q2n q2c,.slice q3p q3n q3c,.slice q4p q4n q4c,.slice q5p q5n q5c,.slice q6p q6n q6c,.slice q7p q7n q7c,.slice q8p q8n q8c,.slice q9p q9n q9c,.slice q10p q10n q10c,.slice q11p q11n q11c]] (.bool MB))(h4:Kp Zr w 9 #[.agg #[.slice q0p q0n q0c,.slice q1p q1n q1c,.slice q2p q2n q2c,.slice q3p q3n q3c,.slice q4p q4n q4c,.slice q5p q5n q5c,.slice q6p q6n q6c,.slice q7p q7n q7c,.slice q8p q8n q8c,.slice q9p q9n q9c,.slice q10p q10n q10c,.slice q11p q11n q11c]] (.bool MB))(h5:Kp Zr w 10 #[.agg #[.slice q0p q0n q0c,.slice q1p q1n q1c,.slice q2p q2n q2c,.slice q3p q3n q3c,.slice q4p q4n q4c,.slice q5p q5n q5c,.slice q6p q6n q6c,.slice q7p q7n q7c,.slice q8p q8n q8c,.slice q9p q9n q9c,.slice q10p q10n q10c,.slice q11p q11n q11c],.slice lp ln lc,.agg #[.int .i64 ra,.slice xp xn xc]] (.bool RB))(h6:Kp Zr w 11 #[.agg #[.slice q0p q0n q0c,.slice q1p q1n q1c,.slice q2p q2n q2c,.slice q3p q3n q3c,.slice q4p q4n q4c,.slice q5p q5n q5c,.slice q6p q6n q6c,.slice q7p q7n q7c,.slice q8p q8n q8c,.slice q9p q9n q9c,.slice q10p q10n q10c,.slice q11p q11n q11c],.slice lp ln lc,.agg #[.int .i64 ra,.slice xp xn xc]] (.bool RB)) :
  Calls Zr 3 #[.agg #[.slice q0p q0n q0c,.slice q1p q1n q1c,.slice q2p q2n q2c,.slice q3p q3n q3c,.slice q4p q4n q4c,.slice q5p q5n q5c,.slice q6p q6n q6c,.slice q7p q7n q7c,.slice q8p q8n q8c,.slice q9p q9n q9c,.slice q10p q10n q10c,.slice q11p q11n q11c],.int .i64 act,.slice cp cn cc,.slice lp ln lc,.agg #[.int .i64 ra,.slice xp xn xc]] w fun e w'=>e=.returned (.bool true)∧∃x,w'=plus w x:=by
 obtain⟨W,yy,hWW,⟨z,hz⟩,cb0,cb1⟩:=ZF w #[.slice q0p q0n q0c,.slice q1p q1n q1c,.slice q2p q2n q2c,.slice q3p q3n q3c,.slice q4p q4n q4c,.slice q5p q5n q5c,.slice q6p q6n q6c,.slice q7p q7n q7c,.slice q8p q8n q8c,.slice q9p q9n q9c,.slice q10p q10n q10c,.slice q11p q11n q11c] #[.int .i64 ra,.slice xp xn xc] 33 38;have c0_0:=cb0 0 _ rfl;have c0_1:=cb0 1 _ rfl;have c0_2:=cb0 2 _ rfl;have c0_3:=cb0 3 _ rfl;have c0_4:=cb0 4 _ rfl;have c0_5:=cb0 5 _ rfl;have c0_6:=cb0 6 _ rfl;have c0_7:=cb0 7 _ rfl;have c0_8:=cb0 8 _ rfl;have c0_9:=cb0 9 _ rfl;have c0_10:=cb0 10 _ rfl;have c0_11:=cb0 11 _ rfl;have c1_0:=cb1 0 _ rfl;have c1_1:=cb1 1 _ rfl;have qG:=Zg (fun y=>(by have:=hG ⟨z.blocks++y.blocks,y.draws⟩;rwa [←Zx,←hz]at this:Calls Zr 4 #[.agg #[.slice q0p q0n q0c,.slice q1p q1n q1c,.slice q2p q2n q2c,.slice q3p q3n q3c,.slice q4p q4n q4c,.slice q5p q5n q5c,.slice q6p q6n q6c,.slice q7p q7n q7c,.slice q8p q8n q8c,.slice q9p q9n q9c,.slice q10p q10n q10c,.slice q11p q11n q11c]] (Go.Proofs.YtheaknidbcbneaaGreat.plus W y) (SR (Go.Proofs.YtheaknidbcbneaaGreat.plus W y))));have q1:=Zg (Zy hz h1);have q2:=Zg (Zy hz h2);have q3:=Zg (Zy hz h3);have q4:=Zg (Zy hz h4);have q5:=Zg (Zy hz h5);have q6:=Zg (Zy hz h6);have qK:=Zg (Zy hz (LF w));have ZH:=Zg hWW;have Zw:=Zg hz;clear hWW hz cb0 cb1 hG h1 h2 h3 h4 h5 h6;by_cases h1:500<cn
 case pos =>
  have n1:(500:Int)<(cn:Int):=by omega
  have n1b:decide ((500:Int)<(cn:Int))=true:=decide_eq_true n1;have n1c:decide (500<cn)=true:=decide_eq_true h1;go_enter func3,ntmps3;go_upto_region 1 with (fail)
  rw[ZH.out];go_wp2_with fail;refine (qG.out _).mono ?_;rintro e9 w9 ⟨b,rfl,y9,rfl⟩;rw[Zx];cases b with
  | true =>
   go_wp2_with fail;refine (qK.out _).mono ?_;rintro e9 w9 ⟨rfl,y9,rfl⟩;go_wp2_with fail;go_ret;exact⟨rfl,by rw[Zw.out,Zx];exact⟨_,rfl⟩⟩
  | false =>
   go_wp2_with fail;refine (qK.out _).mono ?_;rintro e9 w9 ⟨rfl,y9,rfl⟩;go_wp2_with fail;go_ret;exact⟨rfl,by rw[Zw.out,Zx];exact⟨_,rfl⟩⟩
 case neg =>
 by_cases h2:40<ln
 case pos =>
  have n1:¬(500:Int)<(cn:Int):=by omega
  have n1b:decide ((500:Int)<(cn:Int))=false:=decide_eq_false n1;have n1c:decide (500<cn)=false:=decide_eq_false h1;have n2:(40:Int)<(ln:Int):=by omega
  have n2b:decide ((40:Int)<(ln:Int))=true:=decide_eq_true n2;have n2c:decide (40<ln)=true:=decide_eq_true h2;go_enter func3,ntmps3;go_upto_region 1 with (fail)
  rw[ZH.out];go_wp2_with fail;refine (qG.out _).mono ?_;rintro e9 w9 ⟨b,rfl,y9,rfl⟩;rw[Zx];cases b with
  | true =>
   go_wp2_with fail;refine (qK.out _).mono ?_;rintro e9 w9 ⟨rfl,y9,rfl⟩;go_wp2_with fail;go_ret;exact⟨rfl,by rw[Zw.out,Zx];exact⟨_,rfl⟩⟩
  | false =>
   go_wp2_with fail;refine (qK.out _).mono ?_;rintro e9 w9 ⟨rfl,y9,rfl⟩;go_wp2_with fail;go_ret;exact⟨rfl,by rw[Zw.out,Zx];exact⟨_,rfl⟩⟩
 case neg =>
 by_cases h3:40<xn
 case pos =>
  have n1:¬(500:Int)<(cn:Int):=by omega
  have n1b:decide ((500:Int)<(cn:Int))=false:=decide_eq_false n1;have n1c:decide (500<cn)=false:=decide_eq_false h1;have n2:¬(40:Int)<(ln:Int):=by omega
  have n2b:decide ((40:Int)<(ln:Int))=false:=decide_eq_false n2;have n2c:decide (40<ln)=false:=decide_eq_false h2;have n3:(40:Int)<(xn:Int):=by omega
  have n3b:decide ((40:Int)<(xn:Int))=true:=decide_eq_true n3;have n3c:decide (40<xn)=true:=decide_eq_true h3;go_enter func3,ntmps3;go_upto_region 1 with (fail)
  rw[ZH.out];go_wp2_with fail;refine (qG.out _).mono ?_;rintro e9 w9 ⟨b,rfl,y9,rfl⟩;rw[Zx];cases b with
  | true =>
   go_wp2_with fail;refine (qK.out _).mono ?_;rintro e9 w9 ⟨rfl,y9,rfl⟩;go_wp2_with fail;go_ret;exact⟨rfl,by rw[Zw.out,Zx];exact⟨_,rfl⟩⟩
  | false =>
   go_wp2_with fail;refine (qK.out _).mono ?_;rintro e9 w9 ⟨rfl,y9,rfl⟩;go_wp2_with fail;go_ret;exact⟨rfl,by rw[Zw.out,Zx];exact⟨_,rfl⟩⟩
 case neg =>
  have n1:¬(500:Int)<(cn:Int):=by omega
  have n1b:decide ((500:Int)<(cn:Int))=false:=decide_eq_false n1;have n1c:decide (500<cn)=false:=decide_eq_false h1;have n2:¬(40:Int)<(ln:Int):=by omega
  have n2b:decide ((40:Int)<(ln:Int))=false:=decide_eq_false n2;have n2c:decide (40<ln)=false:=decide_eq_false h2;have n3:¬(40:Int)<(xn:Int):=by omega
  have n3b:decide ((40:Int)<(xn:Int))=false:=decide_eq_false n3;have n3c:decide (40<xn)=false:=decide_eq_false h3;have e1:(MB==MB)=true:=beq_self_eq_true _;have e2:(R1==R1)=true:=beq_self_eq_true _;have e3:(R2==R2)=true:=beq_self_eq_true _;have e4:(RB==RB)=true:=beq_self_eq_true _;go_enter func3,ntmps3;go_upto_region 1 with (fail)
  rw[ZH.out];go_wp2_with fail;refine (qG.out _).mono ?_;rintro e9 w9 ⟨b,rfl,y9,rfl⟩;rw[Zx];cases b with
  | true =>
   go_wp2_with fail;refine (qK.out _).mono ?_;rintro e9 w9 ⟨rfl,y9,rfl⟩;go_wp2_with fail;go_ret;exact⟨rfl,by rw[Zw.out,Zx];exact⟨_,rfl⟩⟩
  | false =>
   go_wp2_with fail;refine (q1.out _).mono ?_;rintro e9 w9 ⟨rfl,y9,rfl⟩;go_wp2_with fail;refine (q2.out _).mono ?_;rintro e9 w9 ⟨rfl,y9,rfl⟩;go_wp2_with fail;refine ZP (by kernel_rfl) (by kernel_rfl) ?_;repeat (go_big_quiet_step (first|(with_reducible exact q3.out _)|(with_reducible exact q4.out _)|(with_reducible exact q5.out _)|(with_reducible exact q6.out _)|(with_reducible exact qK.out _)|fail))
   refine wpQuiet_nil ?_;rintro _ ⟨yd,rfl⟩;go_wp2_with fail;go_ret;exact⟨rfl,by rw[Zw.out,Zx];exact⟨_,rfl⟩⟩
theorem J9(p:Pg)(act)(c:Sl Nd)(l:Sl Int)(r:Ru)(w:World)(hp:p.In w)(hc:c.In w 6 Nd.cells Nd.In)(hl:l.In w 1 (Z8 .i64) (Yg .i64))(hr:r.In w)(hz:p.sz≤1048576)(Ym:l.l.length≤1048576)(ZO:r.args.l.length≤1048576) :
  Calls Zr 3 #[p.val,.int .i64 act,c.v,l.v,.agg #[.int .i64 r.act,r.args.v]] w fun e w'=>e=.returned (.bool true)∧∃x,w'=plus w x :=
 Ia p.heads.p p.heads.l.length p.heads.cap p.metas.p p.metas.l.length p.metas.cap p.steps.p p.steps.l.length p.steps.cap p.acts.p p.acts.l.length p.acts.cap p.tabs.p p.tabs.l.length p.tabs.cap p.control.p p.control.l.length p.control.cap p.emit.p p.emit.l.length p.emit.cap p.names.headers.p p.names.headers.l.length p.names.headers.cap p.names.fields.p p.names.fields.l.length p.names.fields.cap p.names.metas.p p.names.metas.l.length p.names.metas.cap p.names.actions.p p.names.actions.l.length p.names.actions.cap p.names.tables.p p.names.tables.l.length p.names.tables.cap act c.p c.l.length c.cap l.p l.l.length l.cap r.act r.args.p r.args.l.length r.args.cap (YR (p.env act) c.l).1 (YR (p.env act) c.l).2 (Tq p) (UQ p l.l r.act r.args.l) w
  (fun y=>HE p _ (hp.plus y) hz) (fun y=>L7 p act c _ (hp.plus y) hz (hc.plus (fun _ a=>a) y)) (Rk p act c w hp hc) (fun y=>L4 p _ (hp.plus y) hz) (HG p w hp hz)
  (PK p l r w hp hl hr Ym ZO) (Ow p l r w hp hl hr Ym ZO)
end Go.Proofs.YtheaknidbcbneaaGreat
namespace Go.Proofs.YtheaknidbcbneaaGreat
open Go.RowKit Go.Proofs.Tryz
open Ending renaming returned→Zf
open Lib renaming hid→Zg
open List renaming drop_of_length_le→Zh,getElem?_eq_getElem→Zi,getElem?_eq_some_iff→Zj,mem_of_getElem?→Zl
open Nat renaming le_refl→Zp,zero_le→Zq
open Go.Proofs.Tryz renaming prog→Zr
open Value renaming int→Zt
open Go.ChangeShapes Go.WideShapes Go.ChangeAt Go.RowKit
theorem Tryz.own:ownKnob Zr.godebug=none:=by kernel_rfl
theorem Tryz.laidOut:laidOutB Zr=true:=by kernel_rfl
theorem QI{v:Value}{cs:List Value}(h:v.cells.toList=cs)(hl:cs.length≠1):v=.agg cs.toArray:=by
 cases v with
 | agg c =>
  simp only[Value.cells]at h;rw[←h]
 | _=>simp only[Value.cells]at h;subst h;simp at hl
section
variable {H:Type} {enc:TypeId × Value→H} {P:Program} {w:World} {base:Nat} {spare:Nat→Bool} {ZN:Bool}
theorem Fx{t t' t'' t3 t4:TypeId}{args:Array Value}{ds:List (DataW H)}{ps:List MemPlace}(h:DataW.TrodAll enc P w base spare ZN [t,t',t'',t3,t4] args.toList ds ps) :
  ∃v v' v'' v3 v4 d d' d'' d3 d4 p p' p'' p3 p4,args=#[v,v',v'',v3,v4]∧ds=[d,d',d'',d3,d4]∧ps=p++p'++p''++p3++p4∧DataW.Trod enc P w base spare ZN t v d p∧DataW.Trod enc P w base spare ZN t' v' d' p'∧DataW.Trod enc P w base spare ZN t'' v'' d'' p''∧DataW.Trod enc P w base spare ZN t3 v3 d3 p3∧DataW.Trod enc P w base spare ZN t4 v4 d4 p4:=by
 obtain⟨v,vs,d,ds',p,q,V7,rfl,rfl,hd,hrest⟩:=trodAll_cons h;obtain⟨v',vs',d',ds'',p',q',rfl,rfl,rfl,hd',hrest'⟩:=trodAll_cons hrest;obtain⟨v'',vs'',d'',ds''',p'',q'',rfl,rfl,rfl,hd'',hrest''⟩:=trodAll_cons hrest';obtain⟨v3,vs3,d3,ds3,p3,q3,rfl,rfl,rfl,hd3,hrest3⟩:=trodAll_cons hrest'';obtain⟨v4,vs4,d4,ds4,p4,q4,rfl,rfl,rfl,hd4,hrest4⟩:=trodAll_cons hrest3;obtain⟨rfl,rfl,rfl⟩:=trodAll_nil hrest4;exact⟨v,v',v'',v3,v4,d,d',d'',d3,d4,p,p',p'',p3,p4,by cases args;simp_all,rfl,by simp,hd,hd',hd'',hd3,hd4⟩
theorem Fy{t t' t'' t3 t4:TypeId}{v v' v'' v3 v4:Value}{d d' d'' d3 d4:DataW H}{p p' p'' p3 p4:List MemPlace}(h:DataW.Trod enc P w base spare ZN t v d p)(h':DataW.Trod enc P w base spare ZN t' v' d' p')(h'':DataW.Trod enc P w base spare ZN t'' v'' d'' p'')(h3:DataW.Trod enc P w base spare ZN t3 v3 d3 p3)(h4:DataW.Trod enc P w base spare ZN t4 v4 d4 p4):DataW.TrodAll enc P w base spare ZN [t,t',t'',t3,t4] [v,v',v'',v3,v4] [d,d',d'',d3,d4] (p++(p'++(p''++(p3++p4)))):=⟨p,_,h,trodAll_mk4 h' h'' h3 h4,rfl⟩
end
theorem Ho(p:Pg):Value.agg p.cells.toArray=p.val:=rfl
theorem GM(r:Ru):Value.agg r.cells.toArray=.agg #[.int .i64 r.act,r.args.v]:=rfl
theorem L3(os:Os)(started:os.Started)(H:Type)(enc:TypeId × Value→H)(F:Stop.Interp) :
  ReturnsInHanded {} Tryz.checked os 3 .any ((Rows.OpenSpec.upto Rows.lowerMaySpec).pre6 enc Zr Tryz.f3 Rows.lowerMayUptoRow.domain false) (((Rows.OpenSpec.upto Rows.lowerMaySpec).at F).post enc Zr Tryz.f3 false true false false):=by
 refine returnsInHanded_of_cond (C:=Tryz.checked) (s:=Rows.OpenSpec.upto Rows.lowerMaySpec) (k:=Rows.uptoSmall) rfl Tryz.own started (by kernel_rfl) func3
  (OpenSpec.witness (enc:=enc) (C:=Tryz.checked) (s:=Rows.OpenSpec.upto Rows.lowerMaySpec) (k:=Rows.uptoSmall) rfl false
   ⟨#[],#[.agg #[.slice none 0 0,.slice none 0 0,.slice none 0 0,.slice none 0 0,.slice none 0 0,.slice none 0 0,.slice none 0 0,.slice none 0 0,.slice none 0 0,.slice none 0 0,.slice none 0 0,.slice none 0 0],.int .i64 0,.slice none 0 0,.slice none 0 0,.agg #[.int .i64 0,.slice none 0 0]],[]⟩ 8 (by kernel_rfl) (by kernel_rfl) (by kernel_rfl)
   (x:=([.agg [.nil,.nil,.nil,.nil,.nil,.nil,.nil,.agg [.nil,.nil,.nil,.nil,.nil]],.lit (.int .i64 0),.nil,.nil,.agg [.lit (.int .i64 0),.nil]],[],[])) (by kernel_rfl) rfl (by kernel_rfl)) ?_
 intro W base args ds gs before hval0 hW _ hk _;have hval:∀(j:Nat) t v,Tryz.f3.params[j]?=some t→args[j]?=some v→Value.okWide Zr W .any base t v:=hval0;have ZH:=hW;obtain⟨p,q,hA0,hV,rfl,hfz,hnd⟩:=hW;have hA:DataW.TrodAll enc Zr W 0 (fun _=>true) true Tryz.f3.params.toList args.toList ds p:=hA0;rw[Tryz.params3]at hA hval;obtain⟨v0,v1,v2,v3,v4,d0,d1,d2,d3,d4,p0,p1,p2,p3,p4,rfl,rfl,rfl,h0,h1,h2,h3,h4⟩:=Fx hA;obtain⟨rfl,rfl⟩:=trodVars_none hV;clear hA0;have Zz:=ZH.lt;simp only[List.append_nil]at ZH Zz;have hbulk:Rows.uptoBulkAll ([d0,d1,d2,d3,d4]++[])≤1048576:=of_decide_eq_true hk;simp only[List.append_nil,Rows.uptoBulkAll]at hbulk;obtain⟨n1,rfl⟩:=okWide_int Tryz.underlying3 (hval 1 3 v1 rfl rfl);obtain⟨a2,n2,c2,rfl⟩:=okWide_slice Tryz.underlying35 (hval 2 35 v2 rfl rfl);obtain⟨a3,n3,c3,rfl⟩:=okWide_slice Tryz.underlying23 (hval 3 23 v3 rfl rfl);obtain⟨f0,t0⟩:=id h0;obtain⟨f2,t2⟩:=id h2;obtain⟨f3,t3⟩:=id h3;obtain⟨f4,t4⟩:=id h4;obtain⟨a,ea,ia,sa⟩:=IX _ _ t0;obtain⟨c,ec,ic,sc⟩:=Xj (cells:=Nd.cells) (In:=Nd.In) (size:=Nd.sz) Tryz.underlying35 S1 (fun _ _=>Qb) t2;obtain⟨l,el,il,sl⟩:=Xj (cells:=Z8 .i64) (In:=Yg .i64) (size:=YL) Tryz.underlying23 cI (fun _ _=>Ts) t3;obtain⟨r,er,ir,sr⟩:=P6 _ _ t4;have g0:=QI ea (by simp[Pg.cells]);have g4:=QI er (by simp[Ru.cells]);have g2:Value.slice a2 n2 c2=c.v:=List.head_eq_of_cons_eq ec;have g3:Value.slice a3 n3 c3=l.v:=List.head_eq_of_cons_eq el;have l1:=Yw YL (fun _=>Zp _) l.l;have l2:=Yw Nu.sz (fun _=>by unfold Nu.sz;omega) r.args.l;have sr':=sr;unfold Ru.sz at sr';unfold Sl.size at sl sr';have VI:=J9 a n1 c l r W ia ic il ir (by simp only at sa;omega) (by simp only at sl;omega) (by simp only at sr';omega);rw[←Ho,←GM,←g0,←g2,←g3,←g4]at VI;refine VI.mono fun r W' ⟨hr,y,hw⟩=>?_;subst hr;subst hw;have hg:=Z9 W y;refine⟨_,rfl,_,_,_,[],p0++(p1++(p2++(p3++p4))),[],ZH,trodAll_mk1 (shut_bool Tryz.underlying4 true),?_,rfl,hg.frame _,fun h=>by cases h⟩;exact Fy (Below.trod Tryz.laidOut (by kernel_rfl) (of_decide_eq_true (by kernel_rfl)) h0 hg (fun x hx=>Zz x (by simp[hx]))) (Below.trod Tryz.laidOut (by kernel_rfl) (of_decide_eq_true (by kernel_rfl)) h1 hg (fun x hx=>Zz x (by simp[hx]))) (Below.trod Tryz.laidOut (by kernel_rfl) (of_decide_eq_true (by kernel_rfl)) h2 hg (fun x hx=>Zz x (by simp[hx]))) (Below.trod Tryz.laidOut (by kernel_rfl) (of_decide_eq_true (by kernel_rfl)) h3 hg (fun x hx=>Zz x (by simp[hx]))) (Below.trod Tryz.laidOut (by kernel_rfl) (of_decide_eq_true (by kernel_rfl)) h4 hg (fun x hx=>Zz x (by simp[hx])))
theorem lmay_holds:Rows.LowerMayUptoSaid :=
 OpenClaim.holds_of_cond 3 Tryz.f3 rfl rfl rfl rfl rfl rfl rfl ⟨rfl,rfl,rfl,rfl,rfl⟩ rfl rfl rfl rfl rfl (by kernel_rfl) func3 (by kernel_rfl)
  (of_decide_eq_true (by kernel_rfl)) (by unfold Func.isWrapper;first|(rw[if_pos (by decide +kernel)];kernel_rfl)|(rw[if_neg (by decide +kernel)];exact⟨rfl,rfl⟩))
  (fun os started H enc _ F=>L3 os started H enc F)
end Go.Proofs.YtheaknidbcbneaaGreat
