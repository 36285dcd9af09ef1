/-
  WHAT IS PROVED HERE: a part of the proof (made narrower and merged by program; the parts: Lrf Lri).
-/
import Derived.Test.YtheaknidbcbneaaGreatM37
import Derived.Test.YtheaknidbcbneaaGreatM33
import Derived.Test.YtheaknidbcbneaaGreatM41
set_option maxRecDepth 100000
set_option maxHeartbeats 8000000
set_option linter.all false
namespace Go.Proofs.YtheaknidbcbneaaGreat
open Go.RowKit Go.Proofs.Tryz
open Bool renaming and_eq_true→Zd,true_and→Ze
open Ending renaming returned→Zf
open Lib renaming hid→Zg
open List renaming drop_of_length_le→Zh,getElem?_eq_getElem→Zi,mem_of_getElem?→Zl
open Nat renaming le_refl→Zp,zero_le→Zq
open Go.Proofs.Tryz renaming prog→Zr
open Value renaming bool→Zs,int→Zt
open Go.RowKit
theorem QR(l:List Int)(x:Int):(l.any fun y=>y==x)=l.any fun y=>x==y:=by
 congr 1
 funext y
 rw[Bool.eq_iff_iff,beq_iff_eq,beq_iff_eq];exact eq_comm
theorem Oy(A:Sl Int)(m:Nat)(w:World)(hA:A.In w 1 (Z8 .i64) (Yg .i64))(hl:A.l.length≤1048576):Kp Zr w 24 #[A.v,.int .i64 (m:Int)] (.bool (ZU (X7 m A.l) 0 A.l)):=by
 intro y0;have Vd:=hA.len;obtain⟨p,cap,l⟩:=A;simp only[Sl.v]at hl Vd ⊢;obtain⟨n,hn⟩:=Zv l.length;have hA:=hA.row.plus y0;obtain⟨W,hW⟩:=Zv (plus w y0);rw[hW]at hA ⊢;rw[hn]at hl Vd;clear hW;obtain⟨R,hR⟩:=Zv (ZU (X7 m l) 0 l);have h0:ZU (X7 m l) 0 (l.drop 0)=R:=hR;rw[hn,hR];have ZR:=Zg hA;have ZJ:=Zg hn;have ZX:=Zg hl;have Yd:=Zg h0;have hcap':=Zg Vd;clear hA hl hn hR h0 Vd;go_enter func24,ntmps24;go_wp2;go_loopw [5] (fun iv wr=>∃k:Nat,k≤n∧iv=.int .i64 (k:Int)∧Hid (ZU (X7 m l) k (l.drop k)=R)∧∃y,wr=plus W y) (fun iv _=>n-(intOf iv).toNat)
 case atStart=>exact⟨0,Zq _,rfl,Yd,⟨#[],W.drawn⟩,(ZK W).symm⟩
 case round =>
  obtain⟨k,hk,rfl,hs,y,rfl⟩:=hrel;by_cases Zz:k<n
  ·obtain⟨a,ha⟩:=Z6 l k (by rw[ZJ.out];exact Zz)
   have ZQ:=Qh W p cap (l.take k) a (Ro ZR.out k) (by rw[List.length_take];have:=ZX.out;omega);obtain⟨pa,rfl,hc⟩:=ZR.out k a ha;have ZB:(X7 m l k a&&ZU (X7 m l) (k+1) (l.drop (k+1)))=R:=by rw[←WK (X7 m l) l k a ha];exact hs.out
   have d0:∀y,(Go.Proofs.YtheaknidbcbneaaGreat.plus W y).cell? _=some (.int .i64 a):=fun y=>(hc.plus y).c0 _ rfl;simp only[Nat.mul_one]at d0;rw[List.length_take,Nat.min_eq_left (by have:=ZJ.out;omega),QR]at ZQ;obtain⟨Z,hZ⟩:=Zv ((l.take k).any fun y=>a==y);rw[show X7 m l k a=((decide (0≤a)&&decide (a<(m:Int)))&&!((l.take k).any fun y=>a==y)) from rfl,hZ]at ZB;rw[hZ]at ZQ;have q0c:=Zg ZQ.pure;have a6:=Zg (Yo k n Zz ZX.out);have k0:¬((k:Int)<0):=by omega
   have k1:(k:Int)<(n:Int):=by omega
   have k2:(0:Int)≤(k:Int):=by omega
   have k3:(k:Int)≤(cap:Int):=by have:=hcap'.out;omega
   clear hc ha hs ZQ hZ;by_cases h1:a<0
   ·have e1:decide (a<0)=true:=decide_eq_true h1
    have ZD:=Zg (show false=R by rw[←ZB,decide_eq_false (show ¬0≤a by omega)];simp);clear ZB;go_wp2;refine ZP (by kernel_rfl) (by kernel_rfl) ?_;repeat (go_big_quiet_step (fail))
    refine wpQuiet_nil ?_;rintro _ ⟨y1,rfl⟩;go_wp2;go_ret;exact⟨congrArg (fun z=>Zf (Zs z)) ZD.out,_,rfl⟩
   have e1:decide (a<0)=false:=decide_eq_false h1;by_cases h2:(m:Int)≤a
   ·have e2:decide ((m:Int)≤a)=true:=decide_eq_true h2
    have ZD:=Zg (show false=R by rw[←ZB,decide_eq_false (show ¬a<(m:Int) by omega)];simp);clear ZB;go_wp2;refine ZP (by kernel_rfl) (by kernel_rfl) ?_;repeat (go_big_quiet_step (fail))
    refine wpQuiet_nil ?_;rintro _ ⟨y1,rfl⟩;go_wp2;go_ret;exact⟨congrArg (fun z=>Zf (Zs z)) ZD.out,_,rfl⟩
   have e2:decide ((m:Int)≤a)=false:=decide_eq_false h2;rw[decide_eq_true (show 0≤a by omega),decide_eq_true (show a<(m:Int) by omega)]at ZB;cases Z with
   | true =>
    have ZD:=Zg (show false=R by rw[←ZB];simp);clear ZB;go_wp2;refine ZP (by kernel_rfl) (by kernel_rfl) ?_;repeat (go_big_quiet_step (first|(with_reducible exact q0c.out _)))
    refine wpQuiet_nil ?_;rintro _ ⟨y1,rfl⟩;go_wp2;go_ret;exact⟨congrArg (fun z=>Zf (Zs z)) ZD.out,_,rfl⟩
   | false =>
    have ZD:=Zg (show ZU (X7 m l) (k+1) (l.drop (k+1))=R by rw[←ZB];simp);clear ZB;go_wp2;refine ZP (by kernel_rfl) (by kernel_rfl) ?_;repeat (go_big_quiet_step (first|(with_reducible exact q0c.out _)))
    refine wpQuiet_nil ?_;rintro _ ⟨y1,rfl⟩;go_wp2;go_roundw
    case rel=>exact⟨k+1,Zz,congrArg (Zt .i64) a6.out,ZD,_,rfl⟩
    case measure=>exact YF k n Zz a6.out
  ·obtain rfl:k=n:=by omega
   have ZD:=Zg (show true=R by
    rw[←hs.out,Zh (by rw[ZJ.out];exact Zp _)];rfl)
   clear hs Zz hk;go_wp2;go_ret;exact⟨congrArg (fun z=>Zf (Zs z)) ZD.out,y,rfl⟩
theorem GE(q0p q0n q0c q1p q1n q1c q2p q2n q2c q3p q3n q3c q4p q4n q4c q5p q5n q5c q6p q6n q6c q7p q7n q7c q8p q8n q8c q9p q9n q9c q10p q10n q10c q11p q11n q11c act cp)(cn cc:Nat)(w)(hb:¬cn≤65536) :
  Kp Zr w 7 #[.agg #[.slice q0p q0n q0c,.slice q1p q1n q1c,.slice q2p q2n q2c,.slice q3p q3n q3c,.slice q4p q4n q4c,.slice q5p q5n q5c,.slice q6p q6n q6c,.slice q7p q7n q7c,.slice q8p q8n q8c,.slice q9p q9n q9c,.slice q10p q10n q10c,.slice q11p q11n q11c],.int .i64 act,.slice cp cn cc] (.tuple #[.int .i64 0,.bool false]):=by
 intro y0;obtain⟨V,hV⟩:=Zv (plus w y0);rw[hV];clear hV;have h1:(65536:Int)<(cn:Int):=by omega
 have e1:decide ((65536:Int)<(cn:Int))=true:=decide_eq_true h1;clear hb;go_enter func7,ntmps7;go_wp2_with fail;refine bodyPost_ret (v:=.tuple #[.int .i64 0,.bool false]) (by simp[results,Tryz.results7,go_sem]) rfl ⟨rfl,ZW _ _⟩
theorem Rk(p:Pg)(act)(c:Sl Nd)(w:World)(hp:p.In w)(hc:c.In w 6 Nd.cells Nd.In) :
  Kp Zr w 7 #[p.val,.int .i64 act,c.v] (.tuple #[.int .i64 (YR (p.env act) c.l).1,.bool (YR (p.env act) c.l).2]):=by
 by_cases hb:c.l.length≤65536
 ·intro y0
  have h:=GF _ _ _ _ _ _ _ _ _ _ _ _ _ _ _ _ _ _ _ _ _ _ _ _ _ _ _ _ _ _ _ _ _ _ _ _ act c.p c.l.length c.cap c.l (p.env act) (plus w y0) (hc.plus (fun _ a=>a) y0).row rfl (hc.plus (fun _ a=>a) y0).kids
   (fun n z hn ho=>by rw[Zx];exact Gs p act n _ (hp.plus _) (hc.kids n hn) ho) hb
  unfold YR;rw[if_pos hb,←OH];exact h
 ·have e:YR (p.env act) c.l=(0,false):=if_neg hb
  rw[e];exact GE _ _ _ _ _ _ _ _ _ _ _ _ _ _ _ _ _ _ _ _ _ _ _ _ _ _ _ _ _ _ _ _ _ _ _ _ act c.p c.l.length c.cap w hb
def Sd(x:Pt)(k:Int):Bool:=decide (x.v.n % 2 ^ hw k=x.v.n)&&(decide (x.m.n % 2 ^ hw k=x.m.n)&&decide (x.v.n &&& x.m.n=x.v.n))
theorem HI(a b:Nu)(ha:a.In)(hb:b.In)(w):Kp Zr w 101 #[.agg #[.int .u64 a.h,.int .u64 a.l],.agg #[.int .u64 b.h,.int .u64 b.l]] (nv (a.n &&& b.n)):=by
 rw[Nu.nv_eq ha,Nu.nv_eq hb];exact fun y=>Hw a.n b.n (Nu.n_lt ha) (Nu.n_lt hb) (plus w y)
theorem IH(a b:Nat)(hb:b<YT)(ha:a<YT):((hi a==hi b)&&(lo a==lo b))=decide (a=b):=by
 rw[Bool.eq_iff_iff];simp only[Zd,beq_iff_eq,decide_eq_true_eq];constructor
 ·rintro⟨h1,h2⟩
  unfold hi at h1;unfold lo at h2;omega
 ·rintro rfl
  exact⟨rfl,rfl⟩
theorem H2(x:Pt)(k w)(hx:x.In):Kp Zr w 57 #[.agg #[.int .u64 x.v.h,.int .u64 x.v.l,.int .u64 x.m.h,.int .u64 x.m.l],.int .i64 k] (.bool (Sd x k)):=by
 have h1:=Sb hx.v.h;have h2:=Sb hx.v.l;have e1:hi x.v.n=x.v.h:=by unfold hi Nu.n;omega
 have e2:lo x.v.n=x.v.l:=by unfold lo Nu.n;omega
 have hA:Kp Zr w 101 #[.agg #[.int .u64 x.v.h,.int .u64 x.v.l],.agg #[.int .u64 x.m.h,.int .u64 x.m.l]] (.agg #[.int .u64 (hi (x.v.n &&& x.m.n)),.int .u64 (lo (x.v.n &&& x.m.n))]):=HI x.v x.m hx.v hx.m w;refine (H1 x.v.h x.v.l x.m.h x.m.l k _ _ _ _ w (Rl x.v k hx.v w) (Rl x.m k hx.m w) hA).eqv ?_;rw[←e1,←e2,IH _ _ (Nu.n_lt hx.v) (Nat.lt_of_le_of_lt Nat.and_le_left (Nu.n_lt hx.v))];rfl
def Rf(S0:Bool)(acts:List At)(ra:Int)(args:List Nu):Bool:=YE ra acts.length&&(S0&&(match acts[ra.toNat]? with
 | some a=>decide (args.length=a.params.l.length)&&Xl Tc args a.params.l
 | none=>false))
theorem F3{α β:Type}(f:α→β→Bool){l:List α}{m:List β}{k:Nat}(h:l.length≤k):Xl f (l.drop k) (m.drop k)=true:=by
 rw[Zh h];exact QF f _
theorem H3(q0p q0n q0c q1p q1n q1c q2p q2n q2c)(q3p:Option Addr)(q3n q3c:Nat)(q4p q4n q4c q5p q5n q5c q6p q6n q6c q7p q7n q7c q8p q8n q8c q9p q9n q9c q10p q10n q10c q11p q11n q11c lp ln lc ra)(xp:Option Addr)(xn xc:Nat)(args:List Nu)(acts:List At)(S0 w)(hS:Kp Zr w 33 #[.slice lp ln lc,.int .i64 ra] (.bool S0))(Tf:Z2 w 2 At.cells q3p acts)(Va:acts.length=q3n)(hk:∀a∈acts,a.params.In w 1 (Z8 .i64) (Yg .i64))(V7:Z2 w 2 Nu.cells xp args)(Xd:args.length=xn)(hxi:∀a∈args,a.In)(hb:xn≤1048576) :
  Kp Zr w 11 #[.agg #[.slice q0p q0n q0c,.slice q1p q1n q1c,.slice q2p q2n q2c,.slice q3p q3n q3c,.slice q4p q4n q4c,.slice q5p q5n q5c,.slice q6p q6n q6c,.slice q7p q7n q7c,.slice q8p q8n q8c,.slice q9p q9n q9c,.slice q10p q10n q10c,.slice q11p q11n q11c],.slice lp ln lc,.agg #[.int .i64 ra,.slice xp xn xc]] (.bool (Rf S0 acts ra args)):=by
 intro y0;have hS:=hS.up y0;have Tf:=Tf.plus y0;have V7:=V7.plus y0;have hk:∀a∈acts,a.params.In (plus w y0) 1 (Z8 .i64) (Yg .i64):=fun a ha=>(hk a ha).plus (fun _ a=>a) y0;obtain⟨V,hV⟩:=Zv (plus w y0);rw[hV]at hS Tf V7 hk ⊢;clear hV;obtain⟨R,hR⟩:=Zv (Rf S0 acts ra args);rw[hR];unfold Rf at hR;rw[Va]at hR;replace hS:=Zg hS;obtain⟨W,yy,hW,⟨z,hz⟩,cb0,cb1⟩:=ZF V #[.slice q0p q0n q0c,.slice q1p q1n q1c,.slice q2p q2n q2c,.slice q3p q3n q3c,.slice q4p q4n q4c,.slice q5p q5n q5c,.slice q6p q6n q6c,.slice q7p q7n q7c,.slice q8p q8n q8c,.slice q9p q9n q9c,.slice q10p q10n q10c,.slice q11p q11n q11c] #[.int .i64 ra,.slice xp xn xc] 33 38;have c0_0:=cb0 0 _ rfl;have c0_1:=cb0 1 _ rfl;have c0_2:=cb0 2 _ rfl;have c0_3:=cb0 3 _ rfl;have c0_4:=cb0 4 _ rfl;have c0_5:=cb0 5 _ rfl;have c0_6:=cb0 6 _ rfl;have c0_7:=cb0 7 _ rfl;have c0_8:=cb0 8 _ rfl;have c0_9:=cb0 9 _ rfl;have c0_10:=cb0 10 _ rfl;have c0_11:=cb0 11 _ rfl;have c1_0:=cb1 0 _ rfl;have c1_1:=cb1 1 _ rfl;have Zw:=Zg hz;have u0c:=Zg (Zy hz hS.out);have ZH:=Zg hW;clear cb0 cb1 hz hW;by_cases h1:ra<0
 ·have e1:decide (ra<0)=true:=decide_eq_true h1
  have hF:=Zg (show false=R by rw[←hR];unfold YE;rw[decide_eq_false (show ¬0≤ra by omega)];rfl);clear hR Tf Va hk V7 Xd hxi hS;go_enter func11,ntmps11;go_wp2_with fail;rw[ZH.out];refine ZP (by kernel_rfl) (by kernel_rfl) ?_;repeat (go_big_quiet_step (fail))
  refine wpQuiet_nil ?_;rintro _ ⟨y1,rfl⟩;go_wp2;go_ret;exact⟨congrArg (fun z=>Zf (Zs z)) hF.out,by rw[Zw.out,Zx];exact⟨_,rfl⟩⟩
 ·have e1:decide (ra<0)=false:=decide_eq_false h1
  by_cases h2:(q3n:Int)≤ra
  ·have e2:decide ((q3n:Int)≤ra)=true:=decide_eq_true h2
   have hF:=Zg (show false=R by rw[←hR];unfold YE;rw[decide_eq_false (show ¬ra<(q3n:Int) by omega),Bool.and_false];rfl);clear hR Tf Va hk V7 Xd hxi hS;go_enter func11,ntmps11;go_wp2_with fail;rw[ZH.out];refine ZP (by kernel_rfl) (by kernel_rfl) ?_;repeat (go_big_quiet_step (fail))
   refine wpQuiet_nil ?_;rintro _ ⟨y1,rfl⟩;go_wp2;go_ret;exact⟨congrArg (fun z=>Zf (Zs z)) hF.out,by rw[Zw.out,Zx];exact⟨_,rfl⟩⟩
  ·have e2:decide ((q3n:Int)≤ra)=false:=decide_eq_false h2
   obtain⟨k,rfl⟩:∃k:Nat,ra=(k:Int):=⟨ra.toNat,by omega⟩;obtain⟨⟨⟨pp,pc,pl⟩,⟨bp,bc,bl⟩⟩,ha⟩:∃a,acts[k]?=some a:=⟨acts[k]'(by omega),Zi _⟩;have VO:=hk _ (Zl ha);obtain⟨aa,rfl,hd⟩:=Tf k _ ha;obtain⟨pn,hpn⟩:=Zv pl.length;obtain⟨bn,Xa⟩:=Zv bl.length;have d0:∀y,(Go.Proofs.YtheaknidbcbneaaGreat.plus W y).cell? (aa.add (k*2))=some (.slice pp pn pc):=fun y=>by rw[Zw.out,←hpn];exact ((hd.plus z).plus y).c0 _ rfl
   rw[show YE (k:Int) q3n=true by unfold YE;simp;omega,Int.toNat_natCast,ha,Ze]at hR;simp only[Xd,hpn]at hR;have k0:¬((k:Int)<0):=h1;have e2n:decide (q3n≤k)=false:=decide_eq_false (by omega);have k1:(k:Int)<(q3n:Int):=by omega
   have Z1:=VO.row;simp only at Z1;clear h1 h2 Tf Va hk hd ha hS;cases S0 with
   | false =>
    have hF:=Zg (show false=R from hR);clear hR V7 Xd hxi Z1;go_enter func11,ntmps11;go_wp2_with fail;rw[ZH.out];refine ZP (by kernel_rfl) (by kernel_rfl) ?_;repeat (go_big_quiet_step (first|(with_reducible exact u0c.out _)))
    refine wpQuiet_nil ?_;rintro _ ⟨y1,rfl⟩;go_wp2;go_ret;exact⟨congrArg (fun z=>Zf (Zs z)) hF.out,by rw[Zw.out,Zx];exact⟨_,rfl⟩⟩
   | true =>
    rw[Ze]at hR;by_cases h3:xn=pn
    ·rw[decide_eq_true h3,Ze]at hR
     subst h3;have e3:((xn:Int)==(xn:Int))=true:=beq_self_eq_true _;have e4:((xn:Int) !=(xn:Int))=false:=by rw[bne,e3];rfl
     have e5:(xn !=xn)=false:=by simp
     have Yi:Hid (Xl Tc (args.drop 0) (pl.drop 0)=R):=Zg hR;have T6:Hid (∀j x,pl[j]?=some x→∃p9,pp=some p9∧∀y,(Go.Proofs.YtheaknidbcbneaaGreat.plus W y).cell? (p9.add (j*1))=some (.int .i64 x)):=Zg fun j x hx=>by
      obtain⟨p9,hp,hc⟩:=Z1 j x hx;exact⟨p9,hp,fun y=>by rw[Zw.out];exact ((hc.plus z).plus y).c0 _ rfl⟩
     have harg':Hid (∀(j:Nat) (x:Nu),args[j]?=some x→∃p9,xp=some p9∧∀y,(Go.Proofs.YtheaknidbcbneaaGreat.plus W y).cell? (p9.add (j*2))=some (.int .u64 x.h)∧(Go.Proofs.YtheaknidbcbneaaGreat.plus W y).cell? ⟨(p9.add (j*2)).block,(p9.add (j*2)).off+(0+1),none⟩=some (.int .u64 x.l)):=Zg fun j x hx=>by
      obtain⟨p9,hp,hc⟩:=V7 j x hx;exact⟨p9,hp,fun y=>by rw[Zw.out];exact⟨((hc.plus z).plus y).c0 _ rfl,((hc.plus z).plus y).cs 0 _ rfl⟩⟩
     have hxl':=Zg Xd;have hxi':=Zg hxi;have hpn':=Zg hpn;clear hR V7 Xd hxi Z1 hpn VO;go_enter func11,ntmps11;go_wp2_with fail;rw[ZH.out];refine ZP (by kernel_rfl) (by kernel_rfl) ?_;repeat (go_big_quiet_step (first|(with_reducible exact u0c.out _)))
     refine wpQuiet_nil ?_;rintro _ ⟨y1,rfl⟩;go_wp2;go_loopw [7] (fun iv wr=>∃k:Nat,k≤xn∧iv=.int .i64 (k:Int)∧Hid (Xl Tc (args.drop k) (pl.drop k)=R)∧∃y,wr=Go.Proofs.YtheaknidbcbneaaGreat.plus W y) (fun iv _=>xn-(intOf iv).toNat)
     case atStart=>exact⟨0,Zq _,rfl,Yi,_,rfl⟩
     case round =>
      obtain⟨j,hj,rfl,hs,y,rfl⟩:=hrel;by_cases Zz:j<xn
      ·obtain⟨x,hx⟩:=Z6 args j (by rw[hxl'.out];exact Zz)
       obtain⟨v,hv⟩:=Z6 pl j (by rw[hpn'.out];exact Zz);obtain⟨xa,rfl,hxc⟩:=harg'.out j x hx;obtain⟨pa,rfl,hpc⟩:=T6.out j v hv;have g1:=fun y=>(hxc y).1;have g2:=fun y=>(hxc y).2;have g3:=hpc;simp only[Nat.mul_one]at g3;have ZB:=hs.out;rw[QE Tc hx hv]at ZB;have q0c:=Zg (Rl x v (hxi'.out x (Zl hx)) W).pure;obtain⟨B,hB⟩:=Zv (Tc x v);rw[hB]at ZB;rw[show decide (x.n % 2 ^ hw v=x.n)=B from hB]at q0c;have a6:=Zg (Yo j xn Zz hb);have j0:¬((j:Int)<0):=by omega
       have j1:(j:Int)<(xn:Int):=by omega
       clear hx hv hxc hpc hs hB;cases B with
       | false =>
        have hF:=Zg (show false=R from ZB);clear ZB;go_wp2;refine ZP (by kernel_rfl) (by kernel_rfl) ?_;repeat (go_big_quiet_step (first|(with_reducible exact q0c.out _)))
        refine wpQuiet_nil ?_;rintro _ ⟨y1,rfl⟩;go_wp2;go_ret;exact⟨congrArg (fun z=>Zf (Zs z)) hF.out,by rw[Zw.out,Zx];exact⟨_,rfl⟩⟩
       | true =>
        rw[Ze]at ZB;replace ZB:=Zg ZB;go_wp2;refine ZP (by kernel_rfl) (by kernel_rfl) ?_;repeat (go_big_quiet_step (first|(with_reducible exact q0c.out _)))
        refine wpQuiet_nil ?_;rintro _ ⟨y1,rfl⟩;go_wp2;go_roundw
        case rel=>exact⟨j+1,Zz,congrArg (Zt .i64) (by omega),ZB,_,rfl⟩
        case measure=>exact Wg j xn Zz
      ·obtain rfl:j=xn:=by omega
       have hF:=Zg (show true=R by rw[←hs.out];exact (F3 _ (by rw[hxl'.out];exact Zp _)).symm);go_wp2;go_ret;exact⟨congrArg (fun z=>Zf (Zs z)) hF.out,by rw[Zw.out,Zx];exact⟨_,rfl⟩⟩
    ·have e3:((xn:Int)==(pn:Int))=false:=by rw[beq_eq_false_iff_ne];omega
     have e4:((xn:Int) !=(pn:Int))=true:=by rw[bne,e3];rfl
     have e5:(xn !=pn)=true:=by simpa using h3
     have e6:(xn==pn)=false:=by simpa using h3
     have hF:=Zg (show false=R by rw[←hR,decide_eq_false h3];rfl);clear hR V7 Xd hxi Z1 h3;go_enter func11,ntmps11;go_wp2_with fail;rw[ZH.out];refine ZP (by kernel_rfl) (by kernel_rfl) ?_;repeat (go_big_quiet_step (first|(with_reducible exact u0c.out _)))
     refine wpQuiet_nil ?_;rintro _ ⟨y1,rfl⟩;go_wp2;go_ret;exact⟨congrArg (fun z=>Zf (Zs z)) hF.out,by rw[Zw.out,Zx];exact⟨_,rfl⟩⟩
theorem Ow(p:Pg)(A:Sl Int)(r:Ru)(w:World)(hp:p.In w)(hA:A.In w 1 (Z8 .i64) (Yg .i64))(hr:r.In w)(hl:A.l.length≤1048576)(XB:r.args.l.length≤1048576) :
  Kp Zr w 11 #[p.val,A.v,.agg #[.int .i64 r.act,r.args.v]] (.bool (UQ p A.l r.act r.args.l)):=by
 have h:=H3 p.heads.p p.heads.l.length p.heads.cap p.metas.p p.metas.l.length p.metas.cap p.steps.p p.steps.l.length p.steps.cap p.acts.p p.acts.l.length p.acts.cap p.tabs.p p.tabs.l.length p.tabs.cap p.control.p p.control.l.length p.control.cap p.emit.p p.emit.l.length p.emit.cap p.names.headers.p p.names.headers.l.length p.names.headers.cap p.names.fields.p p.names.fields.l.length p.names.fields.cap p.names.metas.p p.names.metas.l.length p.names.metas.cap p.names.actions.p p.names.actions.l.length p.names.actions.cap p.names.tables.p p.names.tables.l.length p.names.tables.cap A.p A.l.length A.cap r.act r.args.p r.args.l.length r.args.cap r.args.l p.acts.l (A.l.any fun y=>y==r.act) w (Qh w A.p A.cap A.l r.act hA.row hl) hp.acts.row rfl (fun a ha=>(hp.acts.kids a ha).params) hr.args.row rfl hr.args.kids XB;refine h.eqv (congrArg Zs ?_);unfold Rf UQ SX;rw[QR,Bool.and_left_comm];rfl
end Go.Proofs.YtheaknidbcbneaaGreat
