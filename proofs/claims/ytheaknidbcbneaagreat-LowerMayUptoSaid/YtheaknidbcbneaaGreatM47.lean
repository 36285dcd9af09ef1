/-
  WHAT IS PROVED HERE: a part of the proof (made narrower and merged by program; the parts: Lrl Lrm Lru).
-/
import Derived.Test.YtheaknidbcbneaaGreatM45
import Derived.Test.YtheaknidbcbneaaGreatM46
import Derived.Test.YtheaknidbcbneaaGreatM37
import Derived.Test.YtheaknidbcbneaaGreatM44
set_option maxRecDepth 100000
set_option maxHeartbeats 8000000
set_option linter.all false
namespace Go.Proofs.YtheaknidbcbneaaGreat
open Go.RowKit Go.Proofs.Tryz
open Bool renaming and_eq_true→Zd,true_and→Ze
open Ending renaming returned→Zf
open Lib renaming hid→Zg
open List renaming drop_of_length_le→Zh,getElem?_eq_getElem→Zi,getElem?_eq_some_iff→Zj,mem_of_getElem?→Zl
open Nat renaming le_refl→Zp,zero_le→Zq
open Go.Proofs.Tryz renaming prog→Zr
open Value renaming bool→Zs,int→Zt
open Go.RowKit
structure Pg.Wd (p:Pg):Prop where
 heads:∀h∈p.heads.l,∀x∈h.l,x≠0
 metas:∀x∈p.metas.l,x≠0
theorem Pq(n many:Nat)(it:Int)(b:Bool):((!(decide (it≤(n:Int))))&&((!(decide ((many:Int)<it)))&&b))=((decide ((n:Int)<it)&&decide (it≤(many:Int)))&&b):=by
 rw[show decide ((n:Int)<it)=!(decide (it≤(n:Int))) by rw[←decide_not];congr 1;apply propext;omega,show decide (it≤(many:Int))=!(decide ((many:Int)<it)) by rw[←decide_not];congr 1;apply propext;omega,Bool.and_assoc]
theorem Lx(a:Int)(n:Nat)(b:Bool):((!(decide (a<0)))&&((!(decide ((n:Int)≤a)))&&b))=(YE a n&&b):=by
 unfold YE;rw[show decide (0≤a)=!(decide (a<0)) by rw[←decide_not];congr 1;apply propext;omega,show decide (a<(n:Int))=!(decide ((n:Int)≤a)) by rw[←decide_not];congr 1;apply propext;omega,Bool.and_assoc]
theorem Ly(a:Int)(n:Nat)(b:Bool):((!(decide (a<0)))&&(decide (a<(n:Int))&&b))=(YE a n&&b):=by
 unfold YE;rw[show decide (0≤a)=!(decide (a<0)) by rw[←decide_not];congr 1;apply propext;omega,Bool.and_assoc]
theorem NC(act:Int)(h:-1≤act):(!(decide (0≤act)))=(act==-1):=by
 rw[Bool.eq_iff_iff];simp only[Bool.not_eq_true',decide_eq_false_iff_not,beq_iff_eq];omega
theorem RV{a:Int}{n:Nat}(h:¬(0≤a∧a<(n:Int))):YE a n=false:=by
 unfold YE;rw[Bool.and_eq_false_iff,decide_eq_false_iff_not,decide_eq_false_iff_not];omega
theorem PC{k n:Nat}(h:k<n):YE (k:Int) n=true:=by
 unfold YE;rw[decide_eq_true (by omega),decide_eq_true (by omega)];rfl
theorem HZ(p:Pg)(act:Int)(x:ZZ)(n many:Nat)(w:World)(hp:p.In w)(hx:x.In w)(hd:p.Wd)(ha:-1≤act) :
  Kp Zr w 56 #[p.val,.int .i64 act,x.val,.int .i64 (n:Int),.int .i64 (many:Int)] (.bool (XD p act many n x)):=by
 have hw:=Rk p act x.e w hp hx.e;obtain⟨kd,ia,ib,e,it⟩:=x;simp only at hw;by_cases h1:kd=1
 ·subst h1
  by_cases i1:0≤ia∧ia<(p.heads.l.length:Int)
  ·obtain⟨k,rfl⟩:∃k:Nat,ia=(k:Int):=⟨ia.toNat,by omega⟩
   obtain⟨s,hs⟩:=Z6 p.heads.l k (by omega);obtain⟨aa,ha,Yr⟩:=hp.heads.row k s hs;rw[Nat.mul_one]at Yr;have ZQ:=hp.heads.kids s (Zl hs);have Z1:Uc p (k:Int)=s.l:=by unfold Uc;rw[if_pos i1];simp[List.getD_eq_getElem?_getD,hs]
   have hpv:p.val=.agg #[.slice (some aa) p.heads.l.length p.heads.cap,p.metas.v,p.steps.v,p.acts.v,p.tabs.v,p.control.v,p.emit.v,p.names.headers.v,p.names.fields.v,p.names.metas.v,p.names.actions.v,p.names.tables.v]:=by rw[←ha];rfl
   rw[hpv];by_cases i2:0≤ib∧ib<(s.l.length:Int)
   ·obtain⟨j,rfl⟩:∃j:Nat,ib=(j:Int):=⟨ib.toNat,by omega⟩
    obtain⟨x,hx⟩:=Z6 s.l j (by omega);obtain⟨fa,hfa,hcx⟩:=ZQ.row j x hx;rw[Nat.mul_one]at hcx;have hx0:(x==0)=false:=by rw[beq_eq_false_iff_ne];exact hd.heads s (Zl hs) x (Zl hx)
    have XM:ZG w (aa.add k) [.slice (some fa) s.l.length s.cap]:=by rw[←hfa];exact Yr
    rw[hpv]at hw;refine (HQ p.heads.l.length p.heads.cap p.metas.p p.metas.l.length p.metas.cap p.steps.p p.steps.l.length p.steps.cap p.acts.p p.acts.l.length p.acts.cap p.tabs.p p.tabs.l.length p.tabs.cap p.control.p p.control.l.length p.control.cap p.emit.p p.emit.l.length p.emit.cap p.names.headers.p p.names.headers.l.length p.names.headers.cap p.names.fields.p p.names.fields.l.length p.names.fields.cap p.names.metas.p p.names.metas.l.length p.names.metas.cap p.names.actions.p p.names.actions.l.length p.names.actions.cap p.names.tables.p p.names.tables.l.length p.names.tables.cap act e.p e.l.length e.cap it n many _ x _ aa fa k j s.l.length s.cap w (by omega) (by omega) XM hcx hw).eqv (congrArg Zs ?_);unfold XD WJ V6 Vg;simp only[Z1,if_pos,hx0,PC (show j<s.l.length by omega),SY hx,Ze];rfl
   ·refine (HP p.heads.l.length p.heads.cap p.metas.p p.metas.l.length p.metas.cap p.steps.p p.steps.l.length p.steps.cap p.acts.p p.acts.l.length p.acts.cap p.tabs.p p.tabs.l.length p.tabs.cap p.control.p p.control.l.length p.control.cap p.emit.p p.emit.l.length p.emit.cap p.names.headers.p p.names.headers.l.length p.names.headers.cap p.names.fields.p p.names.fields.l.length p.names.fields.cap p.names.metas.p p.names.metas.l.length p.names.metas.cap p.names.actions.p p.names.actions.l.length p.names.actions.cap p.names.tables.p p.names.tables.l.length p.names.tables.cap act ib e.p e.l.length e.cap it n many aa s.p k s.l.length s.cap w (by omega) i2 Yr).eqv (congrArg Zs ?_)
    unfold XD WJ;simp only[Z1,if_pos,RV i2,Bool.false_and]
  ·refine (HO p.heads.p p.heads.l.length p.heads.cap p.metas.p p.metas.l.length p.metas.cap p.steps.p p.steps.l.length p.steps.cap p.acts.p p.acts.l.length p.acts.cap p.tabs.p p.tabs.l.length p.tabs.cap p.control.p p.control.l.length p.control.cap p.emit.p p.emit.l.length p.emit.cap p.names.headers.p p.names.headers.l.length p.names.headers.cap p.names.fields.p p.names.fields.l.length p.names.fields.cap p.names.metas.p p.names.metas.l.length p.names.metas.cap p.names.actions.p p.names.actions.l.length p.names.actions.cap p.names.tables.p p.names.tables.l.length p.names.tables.cap act ia ib e.p e.l.length e.cap it n many w i1).eqv (congrArg Zs ?_)
   unfold XD WJ;rw[if_pos rfl,show Uc p ia=[] from if_neg i1,RV (by simp only[List.length_nil];omega),Bool.false_and]
 by_cases h2:kd=2
 ·subst h2
  by_cases i1:0≤ia∧ia<(p.metas.l.length:Int)
  ·obtain⟨k,rfl⟩:∃k:Nat,ia=(k:Int):=⟨ia.toNat,by omega⟩
   obtain⟨x,hs⟩:=Z6 p.metas.l k (by omega);obtain⟨aa,ha,Yr⟩:=hp.metas.row k x hs;rw[Nat.mul_one]at Yr;have hpv:p.val=.agg #[p.heads.v,.slice (some aa) p.metas.l.length p.metas.cap,p.steps.v,p.acts.v,p.tabs.v,p.control.v,p.emit.v,p.names.headers.v,p.names.fields.v,p.names.metas.v,p.names.actions.v,p.names.tables.v]:=by rw[←ha];rfl
   have hx0:(x==0)=false:=by rw[beq_eq_false_iff_ne];exact hd.metas x (Zl hs)
   rw[hpv]at hw ⊢;refine (HS p.heads.p p.heads.l.length p.heads.cap p.metas.l.length p.metas.cap p.steps.p p.steps.l.length p.steps.cap p.acts.p p.acts.l.length p.acts.cap p.tabs.p p.tabs.l.length p.tabs.cap p.control.p p.control.l.length p.control.cap p.emit.p p.emit.l.length p.emit.cap p.names.headers.p p.names.headers.l.length p.names.headers.cap p.names.fields.p p.names.fields.l.length p.names.fields.cap p.names.metas.p p.names.metas.l.length p.names.metas.cap p.names.actions.p p.names.actions.l.length p.names.actions.cap p.names.tables.p p.names.tables.l.length p.names.tables.cap act ib e.p e.l.length e.cap it n many _ x _ aa k w (by omega) Yr hw).eqv (congrArg Zs ?_);unfold XD WJ V6 Vg;simp only[hx0,PC (show k<p.metas.l.length by omega),SY hs,Ze];rfl
  ·refine (HR p.heads.p p.heads.l.length p.heads.cap p.metas.p p.metas.l.length p.metas.cap p.steps.p p.steps.l.length p.steps.cap p.acts.p p.acts.l.length p.acts.cap p.tabs.p p.tabs.l.length p.tabs.cap p.control.p p.control.l.length p.control.cap p.emit.p p.emit.l.length p.emit.cap p.names.headers.p p.names.headers.l.length p.names.headers.cap p.names.fields.p p.names.fields.l.length p.names.fields.cap p.names.metas.p p.names.metas.l.length p.names.metas.cap p.names.actions.p p.names.actions.l.length p.names.actions.cap p.names.tables.p p.names.tables.l.length p.names.tables.cap act ia ib e.p e.l.length e.cap it n many w i1).eqv (congrArg Zs ?_)
   unfold XD WJ;simp[RV i1]
 by_cases h3:kd=3
 ·subst h3
  refine (HT p.heads.p p.heads.l.length p.heads.cap p.metas.p p.metas.l.length p.metas.cap p.steps.p p.steps.l.length p.steps.cap p.acts.p p.acts.l.length p.acts.cap p.tabs.p p.tabs.l.length p.tabs.cap p.control.p p.control.l.length p.control.cap p.emit.p p.emit.l.length p.emit.cap p.names.headers.p p.names.headers.l.length p.names.headers.cap p.names.fields.p p.names.fields.l.length p.names.fields.cap p.names.metas.p p.names.metas.l.length p.names.metas.cap p.names.actions.p p.names.actions.l.length p.names.actions.cap p.names.tables.p p.names.tables.l.length p.names.tables.cap act ia ib e.p e.l.length e.cap it n many w).eqv (congrArg Zs ?_);rw[NC act ha,Lx];unfold XD WJ V6 Vg;simp[Bool.and_assoc]
 by_cases h4:kd=4
 ·subst h4
  refine (HU p.heads.p p.heads.l.length p.heads.cap p.metas.p p.metas.l.length p.metas.cap p.steps.p p.steps.l.length p.steps.cap p.acts.p p.acts.l.length p.acts.cap p.tabs.p p.tabs.l.length p.tabs.cap p.control.p p.control.l.length p.control.cap p.emit.p p.emit.l.length p.emit.cap p.names.headers.p p.names.headers.l.length p.names.headers.cap p.names.fields.p p.names.fields.l.length p.names.fields.cap p.names.metas.p p.names.metas.l.length p.names.metas.cap p.names.actions.p p.names.actions.l.length p.names.actions.cap p.names.tables.p p.names.tables.l.length p.names.tables.cap act ia ib e.p e.l.length e.cap it n many w).eqv (congrArg Zs ?_);unfold XD WJ V6 Vg;simp[Bool.and_assoc]
 by_cases h5:kd=5
 ·subst h5
  refine (HV p.heads.p p.heads.l.length p.heads.cap p.metas.p p.metas.l.length p.metas.cap p.steps.p p.steps.l.length p.steps.cap p.acts.p p.acts.l.length p.acts.cap p.tabs.p p.tabs.l.length p.tabs.cap p.control.p p.control.l.length p.control.cap p.emit.p p.emit.l.length p.emit.cap p.names.headers.p p.names.headers.l.length p.names.headers.cap p.names.fields.p p.names.fields.l.length p.names.fields.cap p.names.metas.p p.names.metas.l.length p.names.metas.cap p.names.actions.p p.names.actions.l.length p.names.actions.cap p.names.tables.p p.names.tables.l.length p.names.tables.cap act ia ib e.p e.l.length e.cap it n many _ _ w hw).eqv (congrArg Zs ?_);unfold XD WJ V6 Vg;simp[Bool.and_assoc]
 by_cases h6:kd=6
 ·subst h6
  refine (HW p.heads.p p.heads.l.length p.heads.cap p.metas.p p.metas.l.length p.metas.cap p.steps.p p.steps.l.length p.steps.cap p.acts.p p.acts.l.length p.acts.cap p.tabs.p p.tabs.l.length p.tabs.cap p.control.p p.control.l.length p.control.cap p.emit.p p.emit.l.length p.emit.cap p.names.headers.p p.names.headers.l.length p.names.headers.cap p.names.fields.p p.names.fields.l.length p.names.fields.cap p.names.metas.p p.names.metas.l.length p.names.metas.cap p.names.actions.p p.names.actions.l.length p.names.actions.cap p.names.tables.p p.names.tables.l.length p.names.tables.cap act ia ib e.p e.l.length e.cap it n many w).eqv (congrArg Zs ?_);rw[Ly];unfold XD WJ V6 Vg;simp[Bool.and_assoc]
 by_cases h7:kd=7
 ·subst h7
  refine (HX p.heads.p p.heads.l.length p.heads.cap p.metas.p p.metas.l.length p.metas.cap p.steps.p p.steps.l.length p.steps.cap p.acts.p p.acts.l.length p.acts.cap p.tabs.p p.tabs.l.length p.tabs.cap p.control.p p.control.l.length p.control.cap p.emit.p p.emit.l.length p.emit.cap p.names.headers.p p.names.headers.l.length p.names.headers.cap p.names.fields.p p.names.fields.l.length p.names.fields.cap p.names.metas.p p.names.metas.l.length p.names.metas.cap p.names.actions.p p.names.actions.l.length p.names.actions.cap p.names.tables.p p.names.tables.l.length p.names.tables.cap act ia ib e.p e.l.length e.cap it n many _ _ w hw).eqv (congrArg Zs ?_);rw[Pq];unfold XD WJ V6 Vg;simp[Bool.and_assoc]
 by_cases h8:kd=8
 ·subst h8
  refine (HY p.heads.p p.heads.l.length p.heads.cap p.metas.p p.metas.l.length p.metas.cap p.steps.p p.steps.l.length p.steps.cap p.acts.p p.acts.l.length p.acts.cap p.tabs.p p.tabs.l.length p.tabs.cap p.control.p p.control.l.length p.control.cap p.emit.p p.emit.l.length p.emit.cap p.names.headers.p p.names.headers.l.length p.names.headers.cap p.names.fields.p p.names.fields.l.length p.names.fields.cap p.names.metas.p p.names.metas.l.length p.names.metas.cap p.names.actions.p p.names.actions.l.length p.names.actions.cap p.names.tables.p p.names.tables.l.length p.names.tables.cap act ia ib e.p e.l.length e.cap it n many w).eqv (congrArg Zs ?_);rw[Pq];unfold XD WJ V6 Vg;simp[Bool.and_assoc]
 refine (HN p.heads.p p.heads.l.length p.heads.cap p.metas.p p.metas.l.length p.metas.cap p.steps.p p.steps.l.length p.steps.cap p.acts.p p.acts.l.length p.acts.cap p.tabs.p p.tabs.l.length p.tabs.cap p.control.p p.control.l.length p.control.cap p.emit.p p.emit.l.length p.emit.cap p.names.headers.p p.names.headers.l.length p.names.headers.cap p.names.fields.p p.names.fields.l.length p.names.fields.cap p.names.metas.p p.names.metas.l.length p.names.metas.cap p.names.actions.p p.names.actions.l.length p.names.actions.cap p.names.tables.p p.names.tables.l.length p.names.tables.cap act ia ib e.p e.l.length e.cap it n many kd w h1 h2 h3 h4 h5 h6 h7 h8).eqv (congrArg Zs ?_);unfold XD WJ;simp only[h1,h2,h3,h4,h5,h6,h7,h8,if_false,or_self,Bool.false_and]
theorem H0(q0p q0n q0c q1p q1n q1c q2p q2n q2c q3p q3n q3c q4p q4n q4c q5p q5n q5c q6p q6n q6c q7p q7n q7c q8p q8n q8c q9p q9n q9c q10p q10n q10c q11p q11n q11c act)(lp:Option Addr)(ln lc:Nat)(l:List ZZ)(f:Nat→ZZ→Bool)(w:World)(hA:Z2 w 5 ZZ.cells lp l)(hn:l.length=ln)(hl:ln≤1048576)(hf:∀(k:Nat) (x:ZZ),l[k]?=some x→Kp Zr w 56 #[.agg #[.slice q0p q0n q0c,.slice q1p q1n q1c,.slice q2p q2n q2c,.slice q3p q3n q3c,.slice q4p q4n q4c,.slice q5p q5n q5c,.slice q6p q6n q6c,.slice q7p q7n q7c,.slice q8p q8n q8c,.slice q9p q9n q9c,.slice q10p q10n q10c,.slice q11p q11n q11c],.int .i64 act,x.val,.int .i64 (k:Int),.int .i64 (ln:Int)] (.bool (f k x))) :
  Kp Zr w 25 #[.agg #[.slice q0p q0n q0c,.slice q1p q1n q1c,.slice q2p q2n q2c,.slice q3p q3n q3c,.slice q4p q4n q4c,.slice q5p q5n q5c,.slice q6p q6n q6c,.slice q7p q7n q7c,.slice q8p q8n q8c,.slice q9p q9n q9c,.slice q10p q10n q10c,.slice q11p q11n q11c],.int .i64 act,.slice lp ln lc] (.bool (ZM 0 65536 f l)):=by
 intro y0;have hA:=hA.plus y0;have hf:∀(k:Nat) (x:ZZ),l[k]?=some x→Kp Zr (plus w y0) 56 #[.agg #[.slice q0p q0n q0c,.slice q1p q1n q1c,.slice q2p q2n q2c,.slice q3p q3n q3c,.slice q4p q4n q4c,.slice q5p q5n q5c,.slice q6p q6n q6c,.slice q7p q7n q7c,.slice q8p q8n q8c,.slice q9p q9n q9c,.slice q10p q10n q10c,.slice q11p q11n q11c],.int .i64 act,x.val,.int .i64 (k:Int),.int .i64 (ln:Int)] (.bool (f k x)):=fun k x h=>(hf k x h).up y0;obtain⟨V,hV⟩:=Zv (plus w y0);rw[hV]at hA hf ⊢;clear hV;obtain⟨R,hR⟩:=Zv (ZM 0 65536 f l:Bool);rw[hR];unfold ZM at hR;rw[hn]at hR;obtain⟨W,yy,hW,⟨z,hz⟩,cb0⟩:=Ya V #[.slice q0p q0n q0c,.slice q1p q1n q1c,.slice q2p q2n q2c,.slice q3p q3n q3c,.slice q4p q4n q4c,.slice q5p q5n q5c,.slice q6p q6n q6c,.slice q7p q7n q7c,.slice q8p q8n q8c,.slice q9p q9n q9c,.slice q10p q10n q10c,.slice q11p q11n q11c] 33;have c0_0:=cb0 0 _ rfl;have c0_1:=cb0 1 _ rfl;have c0_2:=cb0 2 _ rfl;have c0_3:=cb0 3 _ rfl;have c0_4:=cb0 4 _ rfl;have c0_5:=cb0 5 _ rfl;have c0_6:=cb0 6 _ rfl;have c0_7:=cb0 7 _ rfl;have c0_8:=cb0 8 _ rfl;have c0_9:=cb0 9 _ rfl;have c0_10:=cb0 10 _ rfl;have c0_11:=cb0 11 _ rfl;have ZR:Hid (∀(k:Nat) (x:ZZ),l[k]?=some x→∃a,lp=some a∧∀y,ZG (Go.Proofs.YtheaknidbcbneaaGreat.plus W y) (a.add (k*5)) x.cells):=Zg fun k x hx=>by
  obtain⟨a,hp,hc⟩:=hA k x hx;exact⟨a,hp,fun y=>by rw[hz];exact (hc.plus z).plus y⟩
 have Yu:Hid (∀(k:Nat) (x:ZZ),l[k]?=some x→Vh Zr W 56 #[.agg #[.slice q0p q0n q0c,.slice q1p q1n q1c,.slice q2p q2n q2c,.slice q3p q3n q3c,.slice q4p q4n q4c,.slice q5p q5n q5c,.slice q6p q6n q6c,.slice q7p q7n q7c,.slice q8p q8n q8c,.slice q9p q9n q9c,.slice q10p q10n q10c,.slice q11p q11n q11c],.int .i64 act,x.val,.int .i64 (k:Int),.int .i64 (ln:Int)] (.bool (f k x))):=Zg fun k x hx=>Zy hz (hf k x hx);have ZH:=Zg hW;have Zw:=Zg hz;have ZJ:=Zg hn;clear hW hz cb0 hA hf hn;by_cases h1:ln≤65536
 ·have e1:decide ((65536:Int)<(ln:Int))=false:=decide_eq_false (by omega)
  have n1:¬(65536:Int)<(ln:Int):=by omega
  rw[decide_eq_true (show (0:Int)≤(ln:Int) by omega),decide_eq_true (show (ln:Int)≤65536 by omega),Ze,Ze]at hR;have Yd:Hid (ZU f 0 (l.drop 0)=R):=Zg hR;clear hR h1;go_enter func25,ntmps25;go_upto_region 1 with (fail)
  rw[ZH.out];go_wp2_with fail;go_loopw [7] (fun iv wr=>∃k:Nat,k≤ln∧iv=.int .i64 (k:Int)∧Hid (ZU f k (l.drop k)=R)∧∃y,wr=Go.Proofs.YtheaknidbcbneaaGreat.plus W y) (fun iv _=>ln-(intOf iv).toNat)
  case atStart=>exact⟨0,Zq _,rfl,Yd,yy,rfl⟩
  case round =>
   obtain⟨k,hk,rfl,hs,y,rfl⟩:=hrel;by_cases Zz:k<ln
   ·obtain⟨⟨kd,ia,ib,⟨ep,ec,el⟩,it⟩,hx⟩:∃x,l[k]?=some x:=⟨l[k]'(by rw[ZJ.out];exact Zz),Zi _⟩
    obtain⟨pa,rfl,hc⟩:=ZR.out k _ hx;have hq:=Yu.out k _ hx;have ZB:=hs.out;rw[WK f l k _ hx]at ZB;obtain⟨en,hen⟩:=Zv el.length;obtain⟨B,hB⟩:=Zv (f k ⟨kd,ia,ib,⟨ep,ec,el⟩,it⟩);rw[hB]at ZB hq;simp only[ZZ.val,Sl.v,hen]at hq;have d0:=fun y=>(hc y).c0 _ rfl;have d1:=fun y=>(hc y).cs 0 _ rfl;have d2:=fun y=>(hc y).cs 1 _ rfl;have d3:=fun y=>(hc y).cs 2 _ rfl;have d4:=fun y=>(hc y).cs 3 _ rfl;simp only[Sl.v,hen]at d3;replace hq:=Zg hq;have a6:=Zg (Yo k ln Zz hl);have j0:¬((k:Int)<0):=by omega
    have j1:(k:Int)<(ln:Int):=by omega
    clear hx hc hs hB hen;cases B with
    | false =>
     have hF:=Zg (show false=R from ZB);clear ZB;go_wp2_with fail;refine ZP (by kernel_rfl) (by kernel_rfl) ?_;repeat (go_big_quiet_step (first|(with_reducible exact hq.out _)|fail))
     refine wpQuiet_nil ?_;rintro _ ⟨y1,rfl⟩;go_wp2_with fail;go_ret;exact⟨congrArg (fun z=>Zf (Zs z)) hF.out,by rw[Zw.out,Zx];exact⟨_,rfl⟩⟩
    | true =>
     rw[Ze]at ZB;replace ZB:=Zg ZB;go_wp2_with fail;refine ZP (by kernel_rfl) (by kernel_rfl) ?_;repeat (go_big_quiet_step (first|(with_reducible exact hq.out _)|fail))
     refine wpQuiet_nil ?_;rintro _ ⟨y1,rfl⟩;go_wp2_with fail;go_roundw
     case rel=>exact⟨k+1,Zz,congrArg (Zt .i64) (by omega),ZB,_,rfl⟩
     case measure=>exact Wg k ln Zz
   ·obtain rfl:k=ln:=by omega
    have hF:=Zg (show true=R by rw[←hs.out,Zh (by rw[ZJ.out];exact Zp _)];rfl);go_wp2_with fail;go_ret;exact⟨congrArg (fun z=>Zf (Zs z)) hF.out,by rw[Zw.out,Zx];exact⟨_,rfl⟩⟩
 ·have e1:decide ((65536:Int)<(ln:Int))=true:=decide_eq_true (by omega)
  have n1:(65536:Int)<(ln:Int):=by omega
  have hF:=Zg (show false=R by rw[←hR,decide_eq_false (show ¬(ln:Int)≤65536 by omega),Bool.and_false,Bool.false_and]);clear hR h1;go_enter func25,ntmps25;go_upto_region 1 with (fail)
  rw[ZH.out];go_wp2_with fail;go_ret;exact⟨congrArg (fun z=>Zf (Zs z)) hF.out,by rw[Zw.out,Zx];exact⟨_,rfl⟩⟩
theorem Ox(p:Pg)(act:Int)(l:Sl ZZ)(w:World)(hp:p.In w)(hl:l.In w 5 ZZ.cells (ZZ.In w))(hn:l.l.length≤1048576)(hd:p.Wd)(ha:-1≤act) :
  Kp Zr w 25 #[p.val,.int .i64 act,l.v] (.bool (ZM 0 65536 (XD p act l.l.length) l.l)) :=
 H0 p.heads.p p.heads.l.length p.heads.cap p.metas.p p.metas.l.length p.metas.cap p.steps.p p.steps.l.length p.steps.cap p.acts.p p.acts.l.length p.acts.cap p.tabs.p p.tabs.l.length p.tabs.cap p.control.p p.control.l.length p.control.cap p.emit.p p.emit.l.length p.emit.cap p.names.headers.p p.names.headers.l.length p.names.headers.cap p.names.fields.p p.names.fields.l.length p.names.fields.cap p.names.metas.p p.names.metas.l.length p.names.metas.cap p.names.actions.p p.names.actions.l.length p.names.actions.cap p.names.tables.p p.names.tables.l.length p.names.tables.cap act l.p l.l.length l.cap l.l (XD p act l.l.length) w hl.row rfl hn fun k x hx=>HZ p act x k l.l.length w hp (hl.kids x (Zl hx)) hd ha
theorem QK{α:Type}(f:Nat→α→Bool):∀(l:List α) (k:Nat),ZU f k l=true↔∀i x,l[i]?=some x→f (k+i) x=true
 | [],_=>by simp[ZU]
 | a :: l,k=>by
  rw[ZU,Zd,QK f l (k+1)];constructor
  ·rintro⟨h1,h2⟩ i x hx
   cases i with
   | zero =>
    rw[List.getElem?_cons_zero]at hx;obtain rfl:=Option.some.inj hx;exact h1
   | succ i =>
    rw[List.getElem?_cons_succ]at hx;have:=h2 i x hx;rwa [show k+1+i=k+(i+1) by omega]at this
  ·intro h
   refine⟨h 0 a rfl,fun i x hx=>?_⟩;have:=h (i+1) x (by rw[List.getElem?_cons_succ];exact hx);rwa [show k+(i+1)=k+1+i by omega]at this
theorem Sm{α:Type}(f:Nat→α→Bool)(l:List α):ZU f 0 l=true↔∀i x,l[i]?=some x→f i x=true:=by
 rw[QK];simp only[Nat.zero_add]
theorem U8{α:Type}(lo hi:Int)(f:Nat→α→Bool)(l:List α):ZM lo hi f l=true↔lo≤(l.length:Int)∧(l.length:Int)≤hi∧∀i x,l[i]?=some x→f i x=true:=by
 unfold ZM;rw[Zd,Zd,decide_eq_true_eq,decide_eq_true_eq,Sm,and_assoc]
theorem SW{α:Type}(f:α→Bool)(l:List α):l.all f=true↔∀(i:Nat) x,l[i]?=some x→f x=true:=by
 rw[List.all_eq_true];exact⟨fun h i x hx=>h x (Zl hx),fun h x hx=>by
  obtain⟨i,hi⟩:=List.getElem?_of_mem hx;exact h i x hi⟩
theorem Nx{α β:Type}(f:α→β→Bool):∀(l:List α) (m:List β),Xl f l m=true↔∀(i:Nat) a b,l[i]?=some a→m[i]?=some b→f a b=true
 | [],_=>by simp[Xl]
 | _ :: _,[]=>by simp[Xl]
 | a :: l,b :: m=>by
  rw[Xl,Zd,Nx f l m];constructor
  ·rintro⟨h1,h2⟩ i x y hx hy
   cases i with
   | zero =>
    rw[List.getElem?_cons_zero]at hx hy;obtain rfl:=Option.some.inj hx;obtain rfl:=Option.some.inj hy;exact h1
   | succ i =>
    rw[List.getElem?_cons_succ]at hx hy;exact h2 i x y hx hy
  ·intro h
   exact⟨h 0 a b rfl rfl,fun i x y hx hy=>h (i+1) x y (by rw[List.getElem?_cons_succ];exact hx) (by rw[List.getElem?_cons_succ];exact hy)⟩
theorem OG{E:Xf}:∀(l:List Nd) (st r:List Int),l≠[]→Wo E st l=some r→∃pre,r=pre++[WI l]
 | [],_,_,h,_=>absurd rfl h
 | n :: l,st,r,_,hr=>by
  rw[Wo]at hr;rcases hs:Vt E n.fit st n with _|st'
  ·rw[hs]at hr;cases hr
  ·rw[hs]at hr
   cases l with
   | nil =>
    simp only[Wo,Option.some.injEq]at hr;subst hr;unfold Vt at hs;split at hs
    ·obtain rfl:=Option.some.inj hs
     exact⟨_,rfl⟩
    ·cases hs
   | cons m l =>
    obtain⟨pre,h⟩:=OG (m :: l) st' r (by simp) hr;refine⟨pre,h.trans ?_⟩;congr 2
theorem Np{E:Xf}{l:List Nd}(h:(YR E l).2=true):(YR E l).1=WI l:=by
 unfold YR at h ⊢;split at h
 case isFalse=>cases h
 rename_i hl
 rw[if_pos hl];rcases hr:Wo E [] l with _|r
 ·rw[hr]at h;cases h
 ·rw[hr]at h
  match r,hr,h with
  | [],_,h=>cases h
  | [x],hr,_ =>
   have YP:l≠[]:=by
    rintro rfl;simp[Wo]at hr
   obtain⟨pre,hp⟩:=OG l [] [x] YP hr;cases pre with
   | nil =>
    show x=WI l
    simpa using hp
   | cons _ pre=>simp at hp
  | _ :: _ :: _,_,h=>cases h
theorem Og(x:Pt)(k:Int):Sd x k=Sf x k:=by
 unfold Sd Sf;rw[Bool.eq_iff_iff];simp only[Zd,decide_eq_true_eq];constructor
 ·exact fun h=>h.2
 ·rintro⟨h1,h2⟩
  refine⟨Nat.mod_eq_of_lt ?_,h1,h2⟩;have h3:x.v.n≤x.m.n:=by
   conv=>lhs;rw[←h2]
   exact Nat.and_le_right
  have h4:=Nat.mod_lt x.m.n (show 2 ^ hw k>0 from Nat.two_pow_pos _);omega
theorem O9(p:Pg)(t:Int):Tz p t=true↔-2≤t∧t<(p.steps.l.length:Int):=by
 unfold Tz YE;simp only[Bool.or_eq_true,Zd,beq_iff_eq,decide_eq_true_eq];omega
def Uu(p:Pg)(s:Sp):Bool:=Tw p.heads.l.length p.steps.l.length (fun c=>YR (p.env (-1)) c.l) s.takes.l s.keys.l s.branches.l s.dest
theorem Qs(p:Pg)(s:Sp)(h1:1≤p.steps.l.length):Uu p s=Tx p s:=by
 unfold Uu Tw Tx;rw[Bool.eq_iff_iff];simp only[Zd,decide_eq_true_eq,U8,SW];by_cases hk:s.keys.l.length=0
 ·rw[if_pos hk,if_pos (show ((s.keys.l.length:Int)==0)=true by simp[hk])]
  simp only[Zd,beq_iff_eq,O9];constructor
  ·rintro⟨⟨a,b,c⟩,d,e⟩
   exact⟨⟨by omega,by omega,d⟩,e,c⟩
  ·rintro⟨⟨a,b,c⟩,d,e⟩
   exact⟨⟨by omega,by omega,e⟩,c,d⟩
 ·rw[if_neg hk,if_neg (show ¬((s.keys.l.length:Int)==0)=true by simp;intro c;exact hk (by rw[c];rfl))]
  simp only[Zd,beq_iff_eq,U8,Sm,decide_eq_true_eq];unfold T7;simp only[Zd,SW,U7,Sn,O9,U8,decide_eq_true_eq];obtain⟨c0,hc0⟩:=Z6 s.keys.l 0 (by omega);constructor
  ·rintro⟨⟨a,b,c,d⟩,e,f,⟨g,g2⟩,h⟩
   refine⟨⟨by omega,by omega,e⟩,f,⟨by omega,by omega,fun i x hx=>(h i x hx).1⟩,by omega,by omega,fun i x hx=>?_⟩;have hx0:=(h 0 c0 hc0).2 i x hx;refine⟨hx0.1,by omega,by omega,fun j y hy=>?_⟩;have hj:j<s.keys.l.length:=by have:=(Zj.1 hy).1;omega
   obtain⟨c,hc⟩:=Z6 s.keys.l j hj;obtain⟨k1,k2⟩:=h j c hc;have k3:=(k2 i x hx).2.2;rw[hy]at k3;unfold Sg;rw[hc,←Og];have:=Np k1;simp only at k3 ⊢;rwa [←this]
  ·rintro⟨⟨a,b,c⟩,f,⟨d,d2,e⟩,g,g2,h⟩
   refine⟨⟨by omega,by omega,by omega,by omega⟩,c,f,⟨by omega,by omega⟩,fun j cc hc=>⟨e j cc hc,fun i x hx=>?_⟩⟩;obtain⟨t1,t2,t3,t4⟩:=h i x hx;refine⟨t1,by omega,?_⟩;have hj:=(Zj.1 hc).1;obtain⟨y,hy⟩:=Z6 x.pats.l j (by omega);have k1:=t4 j y hy;unfold Sg at k1;rw[hc,←Og]at k1;have:=Np (e j cc hc);rw[hy];simp only at k1 ⊢;rwa [this]
theorem Pa(l:List Int):∀k,k≤l.length→(Wq l k<2↔∀j,j<k→l[j]?=some 2→((l.take j).any fun y=>2==y)=false)
 | 0,_=>by simp[Wq]
 | k+1,h=>by
  obtain⟨g,hg⟩:=Z6 l k (by omega);have ih:=Pa l k (by omega);have h0:Wq l k=0↔((l.take k).any fun y=>2==y)=false:=by
   unfold Wq;rw[List.length_eq_zero_iff,List.filter_eq_nil_iff,List.any_eq_false];constructor
   ·intro h a ha c
    exact h a ha (by rw[beq_iff_eq]at c ⊢;exact c.symm)
   ·intro h a ha c
    exact h a ha (by rw[beq_iff_eq]at c ⊢;exact c.symm)
  rw[Q9 l k g hg];by_cases WG:g=2
  ·subst WG
   rw[if_pos (by rfl)];constructor
   ·intro hc j hj hx
    have hz:Wq l k=0:=by omega
    rcases Nat.lt_succ_iff_lt_or_eq.1 hj with hj|rfl
    ·exact ih.1 (by omega) j hj hx
    ·exact h0.1 hz
   ·intro hc
    have:=h0.2 (hc k (Nat.lt_succ_self k) hg);omega
  ·rw[if_neg (by simpa using WG),Nat.add_zero,ih]
   constructor
   ·intro hc j hj hx
    rcases Nat.lt_succ_iff_lt_or_eq.1 hj with hj|rfl
    ·exact hc j hj hx
    ·rw[hg]at hx
     exact absurd (Option.some.inj hx) WG
   ·exact fun hc j hj hx=>hc j (by omega) hx
def Rr(p:Pg)(t:Tb):Bool:=Sj p.acts.l.length (fun c=>YR (p.env (-1)) c.l) t.keys.l t.kinds.l t.acts.l.length (ZU (X7 p.acts.l.length t.acts.l) 0 t.acts.l) (UQ p t.acts.l t.dflt.act t.dflt.args.l)
theorem LE(l:List Int):(∀(i:Nat) x,l[i]?=some x→Tl l i x=true)↔(∀(i:Nat) x,l[i]?=some x→1≤x∧x≤3)∧Wq l l.length<2:=by
 rw[Pa l l.length (Zp _)];constructor
 ·intro h
  refine⟨fun i x hx=>?_,fun j hj hx=>?_⟩
  ·have:=h i x hx
   unfold Tl at this;split at this
   ·omega
   ·rw[Zd,decide_eq_true_eq,decide_eq_true_eq]at this
    exact this
  ·have:=h j 2 hx
   unfold Tl at this;rw[if_pos rfl]at this;simpa using this
 ·rintro⟨h1,h2⟩ i x hx
  unfold Tl;split
  ·rename_i e
   subst e;rw[h2 i (Zj.1 hx).1 hx];rfl
  ·have:=h1 i x hx
   rw[decide_eq_true this.1,decide_eq_true this.2];rfl
theorem Fm(p:Pg)(t:Tb):Rr p t=SO p t:=by
 unfold Rr Sj SO;rw[Bool.eq_iff_iff];simp only[Zd,U8,Sm,decide_eq_true_eq,Ur,LE];constructor
 ·rintro⟨⟨a,b,c,d,e,f⟩,g,h,i⟩
  refine⟨⟨by omega,by omega,fun i x hx=>(g i x hx).1⟩,⟨by omega,by omega,fun i x hx=>?_,by rw[c];exact h⟩,⟨by omega,by omega,f⟩,i⟩;have hi:i<t.keys.l.length:=by have:=(Zj.1 hx).1;omega
  have:=(g i (t.keys.l[i]'hi) (Zi _)).2;unfold UL at this;rw[hx]at this;simpa using this
 ·rintro⟨⟨a,b,c⟩,⟨d,e,f,g⟩,⟨h,i,j⟩,k⟩
  have hl:t.kinds.l.length=t.keys.l.length:=by omega
  refine⟨⟨by omega,by omega,hl,by omega,by omega,j⟩,fun n x hx=>⟨c n x hx,?_⟩,by rw[←hl];exact g,k⟩;have hn:n<t.kinds.l.length:=by have:=(Zj.1 hx).1;omega
  unfold UL;rw[Zi hn];have:=f n _ (Zi hn);simpa using this
theorem IL{m:Nat}{l:List Int}(h:∀(i:Nat) x,l[i]?=some x→X7 m l i x=true):l.length≤m:=by
 have h1:∀(i:Nat) x,l[i]?=some x→(0≤x∧x<(m:Int))∧x ∉ l.take i:=fun i x hx=>by
  have:=h i x hx;unfold X7 YE at this;simp only[Zd,decide_eq_true_eq,Bool.not_eq_true',List.any_eq_false,beq_iff_eq]at this;exact⟨this.1,fun hm=>this.2 x hm rfl⟩
 have h2:=SI (l.map Int.toNat) (List.range m) (by
  rw[List.Nodup,List.pairwise_map,List.pairwise_iff_getElem];intro i j hi hj hij e;have a:=h1 i _ (Zi hi);have b:=h1 j _ (Zi hj);apply b.2;have e2:l[j]=l[i]:=by omega
  rw[e2];exact List.mem_take_iff_getElem.2 ⟨i,by omega,rfl⟩) (fun x hx=>by
  obtain⟨y,hy,rfl⟩:=List.mem_map.1 hx;obtain⟨i,hi⟩:=List.getElem?_of_mem hy;have:=(h1 i y hi).1;exact List.mem_range.2 (by omega))
 simpa using h2
def RA(p:Pg)(i:Nat)(a:At):Bool:=decide (a.params.l.length≤8)&&(a.params.l.all (Yv 0)&&ZM 0 65536 (XD p (i:Int) a.body.l.length) a.body.l)
theorem ND(p:Pg)(i:Nat)(a:At):RA p i a=Sk p i a:=by
 unfold RA Sk;rw[Bool.eq_iff_iff];simp only[Zd,U8,SW,decide_eq_true_eq];constructor
 ·rintro⟨a,b,c⟩
  exact⟨⟨by omega,by omega,b⟩,c⟩
 ·rintro⟨⟨a,b,c⟩,d⟩
  exact⟨by omega,c,d⟩
def R6(p:Pg):Bool:=Un p.names.headers.l.length p.heads.l p.names.fields.l&&(decide (p.metas.l.length≤16)&&(p.metas.l.all (Yv 0)&&(decide (p.names.metas.l.length=p.metas.l.length)&&(decide (p.names.actions.l.length=p.acts.l.length)&&(decide (p.names.tables.l.length=p.tabs.l.length)&&(decide (1≤p.steps.l.length)&&(decide (p.steps.l.length≤16)&&(decide (p.acts.l.length≤16)&&(decide (p.tabs.l.length≤8)&&(ZU (X7 p.heads.l.length p.emit.l) 0 p.emit.l&&(ZM 0 65536 (XD p (-1) p.control.l.length) p.control.l&&(p.steps.l.all (Uu p)&&(Vv (gF p.steps.l)&&(ZU (RA p) 0 p.acts.l&&p.tabs.l.all (Rr p)))))))))))))))
theorem Ic(p:Pg):R6 p=Tq p:=by
 unfold R6 Tq Un R7;rw[Bool.eq_iff_iff];simp only[Zd,U8,Sm,SW,Nx,decide_eq_true_eq,beq_iff_eq,Fm,ND,Tg];constructor
 ·rintro⟨⟨⟨a1,a2,a3⟩,a4⟩,b,c,d,e,f,g,h,i,j,k,l,m,n,o,q⟩
  refine⟨⟨by omega,by omega,fun i x hx=>(a4 i x hx).1⟩,⟨by omega,by omega,c⟩,⟨by omega,by omega,fun i x hx=>?_⟩,n,⟨by omega,by omega,o⟩,⟨by omega,by omega,q⟩,l,⟨by omega,?_,k⟩,by omega,⟨a3,fun i x y hx hy=>?_⟩,by omega,by omega,by omega⟩
  ·rw[←Qs p x (by omega)]
   exact m i x hx
  ·have:=IL k
   omega
  ·have:=(a4 i y hy).2
   rw[hx]at this;simp only[decide_eq_true_eq]at this;omega
 ·rintro⟨⟨_,b,c⟩,⟨_,d,e⟩,⟨f,g,h⟩,i,⟨_,j,k⟩,⟨_,l,m⟩,n,⟨_,o,q⟩,r,⟨s,t⟩,u,v,x⟩
  refine⟨⟨⟨by omega,by omega,s⟩,fun i x hx=>⟨c i x hx,?_⟩⟩,by omega,e,by omega,by omega,by omega,by omega,by omega,by omega,by omega,q,n,fun i x hx=>?_,i,k,m⟩
  ·have hi:=(Zj.1 hx).1
   obtain⟨y,hy⟩:=Z6 p.names.fields.l i (by omega);rw[hy];have:=t i y x hy hx;simp only[decide_eq_true_eq];omega
  ·rw[Qs p x (by omega)]
   exact h i x hx
theorem Nn{p:Pg}(h1:Un p.names.headers.l.length p.heads.l p.names.fields.l=true)(h2:p.metas.l.all (Yv 0)=true):p.Wd:=by
 refine⟨fun h hh x hx=>?_,fun x hx=>?_⟩
 ·unfold Un at h1
  simp only[Zd,Sm,Tg]at h1;obtain⟨i,hi⟩:=List.getElem?_of_mem hh;have h3:=(h1.2 i h hi).1;unfold VV at h3;rw[Zd,U8]at h3;obtain⟨j,hj⟩:=List.getElem?_of_mem hx;have h4:=h3.1.2.2 j x hj;unfold Yv at h4;simp only[Zd,decide_eq_true_eq]at h4;omega
 ·have h4:=List.all_eq_true.1 h2 x hx
  unfold Yv at h4;simp only[Zd,decide_eq_true_eq]at h4;omega
theorem Pk{p:Pg}(h1:1≤p.steps.l.length)(h:p.steps.l.all (Uu p)=true):Uz (gF p.steps.l):=by
 intro k m hm;unfold gF at hm ⊢;rw[List.length_map];rw[List.getD_eq_getElem?_getD,List.getElem?_map]at hm;rcases hs:p.steps.l[k]? with _|s
 ·rw[hs]at hm;simp at hm
 ·rw[hs]at hm
  simp only[Option.map_some,Option.getD_some]at hm;unfold RS at hm;obtain⟨t,ht,he⟩:=List.mem_filterMap.1 hm;have h2:=List.all_eq_true.1 h s (Zl hs);rw[Qs p s h1]at h2;have:=OY h2 t ht;split at he
  ·obtain rfl:=Option.some.inj he
   omega
  ·cases he
end Go.Proofs.YtheaknidbcbneaaGreat
