/-
  WHAT IS PROVED HERE: a part of the proof (made narrower and merged by program; the parts: Dz Ea Eb Ec).
-/
import Derived.Test.YtknmeggfokpbjaaGreatM29
import Derived.Test.YtknmeggfokpbjaaGreatM28
import Derived.Test.YtknmeggfokpbjaaGreatM26
set_option maxRecDepth 100000
set_option maxHeartbeats 8000000
set_option linter.all false
namespace Go.Proofs.YtknmeggfokpbjaaGreat
open Z
open Go.RowKit Go.Proofs.Tryz
open Lib renaming hid→Zf
open List renaming drop_succ_cons→Zg,drop_zero→Zh,getElem?_eq_some_iff→Zi,length_cons→Zk,mem_append→Zn,mem_of_getElem?→Zo,take_succ_cons→Zs
open Nat renaming le_refl→Zt
open Go.Proofs.Tryz renaming prog→Zx
open Go.RowKit
theorem Fg{V W:World}{f:FuncId}{args:Array Value}{E:Ending}(h:Yr Zx V f args E)(hW:∃z,W=plus V z):Calls Zx f args W fun e w'=>e=E∧∃x,w'=plus W x:=by
 obtain⟨z,rfl⟩:=hW;exact h z
theorem jc(cb:Nat)(p0 n0 c0 p1 n1 c1 p2 n2 c2 p3 n3 c3 p4 n4 c4 p5 n5 c5 p6 n6 c6 sk ZI ZJ op lw lh ll hd nm eh el ep en ec tp tn tc up un uc act)(R:Int)(w:World)(C0:w.cell? ⟨cb,0,none⟩=some (.slice p0 n0 c0))(C1:w.cell? ⟨cb,1,none⟩=some (.slice p1 n1 c1))(C2:w.cell? ⟨cb,2,none⟩=some (.slice p2 n2 c2))(C3:w.cell? ⟨cb,3,none⟩=some (.slice p3 n3 c3))(C4:w.cell? ⟨cb,4,none⟩=some (.slice p4 n4 c4))(C5:w.cell? ⟨cb,5,none⟩=some (.slice p5 n5 c5))(C6:w.cell? ⟨cb,6,none⟩=some (.slice p6 n6 c6))(kc:Yr Zx w 36 #[.agg #[.slice p0 n0 c0,.slice p1 n1 c1,.slice p2 n2 c2,.slice p3 n3 c3,.slice p4 n4 c4,.slice p5 n5 c5,.slice p6 n6 c6,.int .i64 act],.agg #[.int .u8 sk,.string ZI,.string ZJ,.int .u8 op,.int .i64 lw,.int .u64 lh,.int .u64 ll,.string hd,.string nm,.int .i64 eh,.int .i64 el,.slice ep en ec,.slice tp tn tc,.slice up un uc]] (Yl R (.tuple #[]))) :
  Yr Zx w 21 #[.pointer (some ⟨cb,0,none⟩),.agg #[.int .u8 10,.int .i64 act,.int .i64 0,.int .u8 sk,.string ZI,.string ZJ,.int .u8 op,.int .i64 lw,.int .u64 lh,.int .u64 ll,.string hd,.string nm,.int .i64 eh,.int .i64 el,.slice ep en ec,.slice tp tn tc,.slice up un uc]] (Yl R (.tuple #[])):=by
 intro y0;have kc:=kc.up y0;open Z renaming amj→zo in exact tX
theorem kW(cb:Nat)(pa:Addr)(n2 c2:Nat)(sk ZI ZJ op lw lh ll hd nm eh el ep en ec tp tn tc up un uc)(a b:Nat)(pc:Addr)(cn cc:Nat)(d sp sn sc cto)(R:Int)(w:World)(ha:a<n2)(hb:b<cn)(C2:w.cell? ⟨cb,2,none⟩=some (.slice (some pa) n2 c2))(S4:w.cell? ⟨(pa.add (a*5)).block,(pa.add (a*5)).off+4,none⟩=some (.slice (some pc) cn cc))(Ym:w.cell? (pc.add (b*3))=some (.bool d))(ZL:w.cell? ⟨(pc.add (b*3)).block,(pc.add (b*3)).off+1,none⟩=some (.slice sp sn sc))(ZT:w.cell? ⟨(pc.add (b*3)).block,(pc.add (b*3)).off+2,none⟩=some (.string cto))(kc:Yr Zx w 35 #[.pointer (some ⟨cb,0,none⟩),.agg #[.bool d,.slice sp sn sc,.string cto]] (Yl R (.tuple #[]))) :
  Yr Zx w 21 #[.pointer (some ⟨cb,0,none⟩),.agg #[.int .u8 7,.int .i64 (a:Int),.int .i64 (b:Int),.int .u8 sk,.string ZI,.string ZJ,.int .u8 op,.int .i64 lw,.int .u64 lh,.int .u64 ll,.string hd,.string nm,.int .i64 eh,.int .i64 el,.slice ep en ec,.slice tp tn tc,.slice up un uc]] (Yl R (.tuple #[])):=by
 intro y0;have kc:=kc.up y0;replace C2:=ZS C2 y0;replace S4:=ZS S4 y0;replace Ym:=ZS Ym y0;replace ZL:=ZS ZL y0;replace ZT:=ZS ZT y0;obtain⟨V,hV⟩:=ZB (plus w y0);rw[hV]at kc C2 S4 Ym ZL ZT ⊢;clear hV;have kc':=Zf kc;clear kc;go_enter func21,ntmps21;go_upto_region 5 with (fail)
 open Z renaming aq4→Jw in exact Hv
theorem kY(cb:Nat)(pa:Addr)(n4 c4:Nat)(sk ZI ZJ op lw lh ll hd nm eh el ep en ec tp tn tc up un uc)(a b:Nat)(kp kn kcap)(R:Int)(w:World)(ha:a<n4)(C4:w.cell? ⟨cb,4,none⟩=some (.slice (some pa) n4 c4))(T1:w.cell? ⟨(pa.add (a*5)).block,(pa.add (a*5)).off+1,none⟩=some (.slice kp kn kcap))(kc:Yr Zx w 37 #[.pointer (some ⟨cb,0,none⟩),.slice kp kn kcap,.int .i64 (b:Int)] (Yl R (.tuple #[]))) :
  Yr Zx w 21 #[.pointer (some ⟨cb,0,none⟩),.agg #[.int .u8 12,.int .i64 (a:Int),.int .i64 (b:Int),.int .u8 sk,.string ZI,.string ZJ,.int .u8 op,.int .i64 lw,.int .u64 lh,.int .u64 ll,.string hd,.string nm,.int .i64 eh,.int .i64 el,.slice ep en ec,.slice tp tn tc,.slice up un uc]] (Yl R (.tuple #[])):=by
 intro y0;have kc:=kc.up y0;replace C4:=ZS C4 y0;replace T1:=ZS T1 y0;obtain⟨V,hV⟩:=ZB (plus w y0);rw[hV]at kc C4 T1 ⊢;clear hV;have kc':=Zf kc;clear kc;go_enter func21,ntmps21;go_upto_region 9 with (fail)
 open Z renaming aq5→Jw in exact Hv
theorem kX(cb:Nat)(pa:Addr)(n4 c4:Nat)(sk ZI ZJ op lw lh ll hd nm eh el ep en ec tp tn tc up un uc)(a:Nat)(dn gp gn gc)(R:Int)(w:World)(ha:a<n4)(C4:w.cell? ⟨cb,4,none⟩=some (.slice (some pa) n4 c4))(T3:w.cell? ⟨(pa.add (a*5)).block,(pa.add (a*5)).off+3,none⟩=some (.string dn))(T4:w.cell? ⟨(pa.add (a*5)).block,(pa.add (a*5)).off+4,none⟩=some (.slice gp gn gc))(kc:Yr Zx w 38 #[.pointer (some ⟨cb,0,none⟩),.agg #[.string dn,.slice gp gn gc]] (Yl R (.tuple #[]))) :
  Yr Zx w 21 #[.pointer (some ⟨cb,0,none⟩),.agg #[.int .u8 14,.int .i64 (a:Int),.int .i64 0,.int .u8 sk,.string ZI,.string ZJ,.int .u8 op,.int .i64 lw,.int .u64 lh,.int .u64 ll,.string hd,.string nm,.int .i64 eh,.int .i64 el,.slice ep en ec,.slice tp tn tc,.slice up un uc]] (Yl R (.tuple #[])):=by
 intro y0;have kc:=kc.up y0;replace C4:=ZS C4 y0;replace T3:=ZS T3 y0;replace T4:=ZS T4 y0;obtain⟨V,hV⟩:=ZB (plus w y0);rw[hV]at kc C4 T3 T4 ⊢;clear hV;have kc':=Zf kc;clear kc;go_enter func21,ntmps21;go_upto_region 11 with (fail)
 open Z renaming aq6→Jw in exact Hv
theorem jb(cb:Nat)(k a b:Int)(sk ZI ZJ op lw lh ll hd nm eh el ep en ec tp tn tc up un uc w)(h6:(k==6)=false)(h7:(k==7)=false)(h10:(k==10)=false)(h12:(k==12)=false)(h14:(k==14)=false) :
  Yr Zx w 21 #[.pointer (some ⟨cb,0,none⟩),.agg #[.int .u8 k,.int .i64 a,.int .i64 b,.int .u8 sk,.string ZI,.string ZJ,.int .u8 op,.int .i64 lw,.int .u64 lh,.int .u64 ll,.string hd,.string nm,.int .i64 eh,.int .i64 el,.slice ep en ec,.slice tp tn tc,.slice up un uc]] (.returned (.tuple #[])):=by
 intro y0;obtain⟨V,hV⟩:=ZB (plus w y0);rw[hV];clear hV;go_enter func21,ntmps21;go_upto_region 1 with (fail)
 obtain⟨X,Y0,hX,⟨zX,ZE⟩,ca⟩:=YO V _ 49;rw[hX];have g0:=ca 0 _ rfl;have hz:=Zf ZE;clear hX ca ZE;exact Dy
theorem kZ(cb:Nat)(pa:Addr)(n2 c2:Nat)(sk ZI ZJ op lw lh ll hd nm eh el ep en ec tp tn tc up un uc)(a:Nat)(sn tkp tkn tkc sto kyp kyn kyc csp csn csc)(V:World)(F:World→Prop)(r:Int)(G:World→Prop)(ha:a<n2)(C2:V.cell? ⟨cb,2,none⟩=some (.slice (some pa) n2 c2))(S0:V.cell? (pa.add (a*5))=some (.string sn))(S1:V.cell? ⟨(pa.add (a*5)).block,(pa.add (a*5)).off+1,none⟩=some (.slice tkp tkn tkc))(S2:V.cell? ⟨(pa.add (a*5)).block,(pa.add (a*5)).off+2,none⟩=some (.string sto))(S3:V.cell? ⟨(pa.add (a*5)).block,(pa.add (a*5)).off+3,none⟩=some (.slice kyp kyn kyc))(S4:V.cell? ⟨(pa.add (a*5)).block,(pa.add (a*5)).off+4,none⟩=some (.slice csp csn csc))(kc:∀W,(∃z,W=plus V z)→Calls Zx 34 #[.pointer (some ⟨cb,0,none⟩),.agg #[.string sn,.slice tkp tkn tkc,.string sto,.slice kyp kyn kyc,.slice csp csn csc]] W fun e w'=>(e=.returned (.tuple #[])∧F w')∨(e=YJ r∧G w')) :
  Calls Zx 21 #[.pointer (some ⟨cb,0,none⟩),.agg #[.int .u8 6,.int .i64 (a:Int),.int .i64 0,.int .u8 sk,.string ZI,.string ZJ,.int .u8 op,.int .i64 lw,.int .u64 lh,.int .u64 ll,.string hd,.string nm,.int .i64 eh,.int .i64 el,.slice ep en ec,.slice tp tn tc,.slice up un uc]] V fun e w'=>(e=.returned (.tuple #[])∧F w')∨(e=YJ r∧G w'):=by
 have kc':=Zf kc;clear kc;go_enter func21,ntmps21;go_upto_region 3 with (fail)
 obtain⟨X,Y0,hX,⟨zX,ZE⟩,ca⟩:=YO V _ 49;rw[hX];have g1:=ca 1 _ rfl;replace C2:∀y,(plus X y).cell? ⟨cb,2,none⟩=some (.slice (some pa) n2 c2):=fun y=>atS;replace S0:∀y,(plus X y).cell? (pa.add (a*5))=some (.string sn):=fun y=>by rw[ZE,ZD];exact ZS S0 _
 replace S1:∀y,(plus X y).cell? ⟨(pa.add (a*5)).block,(pa.add (a*5)).off+1,none⟩=some (.slice tkp tkn tkc):=fun y=>by rw[ZE,ZD];exact ZS S1 _
 replace S2:∀y,(plus X y).cell? ⟨(pa.add (a*5)).block,(pa.add (a*5)).off+2,none⟩=some (.string sto):=fun y=>by rw[ZE,ZD];exact ZS S2 _
 replace S3:∀y,(plus X y).cell? ⟨(pa.add (a*5)).block,(pa.add (a*5)).off+3,none⟩=some (.slice kyp kyn kyc):=fun y=>by rw[ZE,ZD];exact ZS S3 _
 replace S4:∀y,(plus X y).cell? ⟨(pa.add (a*5)).block,(pa.add (a*5)).off+4,none⟩=some (.slice csp csn csc):=fun y=>by rw[ZE,ZD];exact ZS S4 _
 have hz:=Zf ZE;clear hX ca ZE;have hna:¬((a:Int)<0):=asB;have hla:(a:Int)<(n2:Int):=asB;refine Wj 10 asC asC ?_;open Z renaming afi→NM in exact Ms
theorem aG(p:Pr)(hz:p.sz≤1048576)(hW:U8 p)(a:Int)(e:Ex)(k)(hm:e.may 16=true)(w:World)(ZF:p.In w)(he:e.In w)(hb:e.wt≤1048576) :
  Yr Zx w 100 #[Rp p a,e.val,.int .i64 k] (Yl (if (e.ty p a).1=0 then WA (e.ty p a).2 e.free k else (e.ty p a).1) (.tuple #[])):=by
 have kt:=Mj p hz hW a e 16 w hm ZF he hb;have hf:=Ex.ty_fine p a e;have kg:=fun h=>Id (e.ty p a).2 e k w he h;obtain⟨⟨R,t⟩,hR⟩:∃r,e.ty p a=r:=⟨_,rfl⟩;rw[hR]at kt hf kg ⊢;simp only at kt hf kg ⊢;open Z renaming aml→zq in exact tY
theorem aM(p:Pr)(hz:p.sz≤1048576)(hW:U8 p)(a:Int)(s:St)(hm:s.kind=1∨s.kind=2∨s.kind=5→s.e.may 16=true)(ht:s.kind=1→Sn p s.head s.name≠-1)(w:World)(ZF:p.In w)(he:s.e.In w)(hb:s.e.wt≤1048576) :
  Yr Zx w 36 #[Rp p a,.agg s.cells.toArray] (Yl (RX p a s) (.tuple #[])):=by
 unfold RX;by_cases ZL:s.kind=1
 ·rw[if_pos ZL]
  have kg:=aG p hz hW a s.e (R6 p s) (hm (.inl ZL)) w ZF he hb;have q:=ht ZL;unfold Sn at q;have kt:Kp Zx w 101 #[Rp p a,.agg s.cells.toArray] (.int .i64 (R6 p s)):=by
   unfold R6;by_cases h0:s.head.toList=[]
   ·rw[if_pos h0]
    rw[if_pos as4]at q;have k:=xx p w ZF hz a s.name q;open Z renaming agc→RO in exact R9
   ·rw[if_neg h0]
    rw[if_neg as4]at q;have k:=xv p w ZF hz a s.head s.name q;open Z renaming agd→RO in exact R9
  obtain⟨K,hK⟩:=ZB (R6 p s);rw[hK]at kt kg ⊢;clear hK q hm ht;open Z renaming age→RO in exact R9
 rw[if_neg ZL];by_cases ZT:s.kind=2
 ·rw[if_pos ZT]
  have kt:=Mj p hz hW a s.e 16 w (hm (.inr (.inl ZT))) ZF he hb;obtain⟨⟨R,t⟩,hR⟩:∃r,s.e.ty p a=r:=⟨_,rfl⟩;rw[hR]at kt ⊢;simp only at kt ⊢;clear hR hm ht;open Z renaming agf→RO in exact R9
 rw[if_neg ZT];by_cases WF:s.kind=5
 ·rw[if_pos WF]
  have kt:=Mj p hz hW a s.e 16 w (hm (.inr (.inr WF))) ZF he hb;have hf:=Ex.ty_fine p a s.e;have kg:=fun h=>Id (s.e.ty p a).2 s.e 9 w he h;obtain⟨⟨R,t⟩,hR⟩:∃r,s.e.ty p a=r:=⟨_,rfl⟩;rw[hR]at kt hf kg ⊢;simp only at kt hf kg ⊢;clear hR hm ht;open Z renaming agh→RO in exact R9
 rw[if_neg WF];clear hm ht;open Z renaming agi→RO in exact R9
theorem jZ{p:Pr}{a:Int}{s t:St}(h1:s.kind=t.kind)(h2:s.head=t.head)(h3:s.name=t.name)(h4:s.e.bare=t.e.bare):RX p a s=RX p a t:=by
 unfold RX R6;rw[h1,h2,h3,j0 h4 p a,jX h4 p]
def Qg(W:World)(cb:Nat)(kv:Value)(ws:List Int):Prop:=∃(kp:Option Addr) (kc:Nat),kv=.slice kp ws.length kc∧Xa W 1 NI kp ws∧∀a,kp=some a→cb<a.block
theorem Qg.keep{W W':World}{cb:Nat}{kv:Value}{ws:List Int}(h:Qg W cb kv ws)(hk:∀a v,cb<a.block→W.cell? a=some v→W'.cell? a=some v):Qg W' cb kv ws:=by
 obtain⟨kp,kc,h1,h2,h3⟩:=h;refine⟨kp,kc,h1,fun i x hx=>?_,h3⟩;obtain⟨a,ha,hc⟩:=h2 i x hx;exact⟨a,ha,fun j v hj=>hk _ v (by rw[Qi,Qi];exact h3 a ha) (hc j v hj)⟩
def MP(w0 V:World)(p:Pr)(cb:Nat)(kv:Value)(z:It)(e:Ending)(w':World):Prop :=
 (XL p z=0∧e=.returned (.tuple #[])∧(∃y,w'=plus w0 y)∧Kq (fun b=>b=cb) V w'∧∃kv',Ww w' cb p kv' ∧
  (∀(a:Nat) (s:Sa),z=.num 6 a 0→p.states.l[a]?=some s→Qg w' cb kv' (s.keys.l.map (UW p)))∧((∀a,z≠.num 6 a 0)→kv'=kv)) ∨
 (XL p z≠0∧e=YJ (XL p z)∧(∃y,w'=plus w0 y)∧Kq (fun b=>b=cb) V w')
theorem M8{w0 V:World}{p:Pr}{cb:Nat}{kv:Value}{z:It}{args:Array Value}(R:Int)(hR:XL p z=R)(h:Yr Zx V 21 args (Yl R (.tuple #[])))(hV:∃y,V=plus w0 y)(hB:Ww V cb p kv)(h6:∀a,z≠.num 6 a 0) :
  Calls Zx 21 args V (MP w0 V p cb kv z):=by
 refine (Fg h ⟨⟨#[],V.drawn⟩,(Yk V).symm⟩).mono ?_;rintro e w' ⟨rfl,x,rfl⟩;by_cases r0:R=0
 ·refine .inl ⟨hR.trans r0,by rw[r0];rfl,Uj hV x,Kq.plus _ V x,kv,hB.plus x,fun a s hz=>absurd hz (h6 a),fun _=>rfl⟩
 ·exact .inr ⟨by rw[hR];exact r0,by rw[VH r0,hR],Uj hV x,Kq.plus _ V x⟩
theorem aH(w0 V:World)(p:Pr)(cb:Nat)(kv:Value)(z:It)(r:Ri)(hV:∃y,V=plus w0 y)(Tw:w0.heap.size≤cb)(ZF:p.In w0)(hz:p.sz≤1048576)(hW:U8 p)(hN:Qh p z)(hL:Ks z r)(hI:r.s.e.In V)(YB:r.s.e.wt≤1048576)(hB:Ww V cb p kv)(hK:∀(a b:Nat) (s:Sa),z=.num 7 a b→p.states.l[a]?=some s→Qg V cb kv (s.keys.l.map (UW p))) :
  Calls Zx 21 #[.pointer (some ⟨cb,0,none⟩),.agg r.cs.toArray] V (MP w0 V p cb kv z):=by
 have Sd:p.In V:=by obtain⟨y,rfl⟩:=hV;exact ZF.plus y
 have hC:=hB.at;have C0:=hC.cells 0 _ rfl;have C1:=hC.cells 1 _ rfl;have C2:=hC.cells 2 _ rfl;have C3:=hC.cells 3 _ rfl;have C4:=hC.cells 4 _ rfl;have C5:=hC.cells 5 _ rfl;have C6:=hC.cells 6 _ rfl;simp only[Sl.v]at C0 C1 C2 C3 C4 C5 C6;obtain⟨rk,ra,rb,rs⟩:=r;have l1:=hL.k;have l2:=hL.a;have l3:=hL.b;have l4:=hL.kind;have l5:=hL.head;have l6:=hL.name;have l7:=hL.e;simp only at l1 l2 l3 l4 l5 l6 l7 hI YB;have hpz:p.sz=p.headers.size Hr.sz+p.metas.size Fd.sz+p.states.size Sa.sz+p.actions.size Ac.sz+p.tables.size Ta.sz+p.control.size St.sz+p.emit.size Y1:=rfl;cases hN with
 | next a s hs hk =>
  have hs0:p.states.size Sa.sz=(p.states.l.map Sa.sz).sum:=rfl;have hsz2:=YW Sa.sz p.states.l s (Zo hs);have Pi:=ZF.states.kids s (Zo hs);have ZC:=(Zi.1 hs).1;obtain⟨pa,Yw,Yj⟩:=Sd.states.row a s hs;have YC:XL p (.num 6 a 0)=Lz p s:=by simp[XL,hs]
  have hnx:=fun (W:World) (hWV:∃y,W=plus V y)=>aJ w0 W p s cb kv (by obtain⟨y,rfl⟩:=hWV;exact Uj hV y) Tw ZF hz hW Pi asB hk (by obtain⟨y,rfl⟩:=hWV;exact hB.plus y) (MP w0 V p cb kv (.num 6 a 0))
   (fun Xs w' kv' Xr hq XI VX=>.inl ⟨by
     rw[YC];exact P0 _ fun k x hx=>by
      rw[List.getElem?_map]at hx;obtain⟨y,hy,rfl⟩:=Option.map_eq_some_iff.1 hx;exact Xs k y hy,rfl,Xr,by obtain⟨y,rfl⟩:=hWV;exact (Kq.plus _ V y).trans hq,kv',XI,fun a2 s2 ha2 ZP=>by
     injection ha2 with _ ha3 _
     subst ha3;rw[hs]at ZP;obtain rfl:=Option.some.inj ZP;have hWs:V.heap.size≤W.heap.size:=by obtain⟨y,rfl⟩:=hWV;exact XZ V y
     have We:=hB.lt;by_cases hn:0<s.keys.l.length
     ·obtain⟨g,cap,rfl,hg,-⟩:=JL VX hn
      refine⟨some ⟨g,0,none⟩,cap,by rw[List.length_map],FF (f:=NI) VX (fun _ _=>rfl),fun a ha=>?_⟩;obtain rfl:=Option.some.inj ha;show cb<g
      omega
     ·have h0:s.keys.l.length=0:=by omega
      have hnil:s.keys.l.map (UW p)=[]:=by rw[List.length_eq_zero_iff.1 h0];rfl
      rcases VX.2 with⟨rfl,_⟩|⟨g,cap,cur,rfl,hg,_⟩
      ·exact⟨none,0,by rw[hnil];rfl,fun i x hx=>by rw[hnil]at hx;simp at hx,fun a ha=>by cases ha⟩
      ·refine⟨some ⟨g,0,none⟩,cap,by rw[h0,hnil];rfl,fun i x hx=>by rw[hnil]at hx;simp at hx,fun a ha=>?_⟩
       obtain rfl:=Option.some.inj ha;show cb<g
       omega,fun h=>absurd rfl (h a)⟩)
   (fun k x hx hj h0 w' Xr hq=>.inr ⟨by
     rw[YC,Lz,Qk _ k (VA p x) aui (fun j y hj2 hy=>by
      rw[List.getElem?_map]at hy;obtain⟨y2,hy2,rfl⟩:=Option.map_eq_some_iff.1 hy;exact hj j y2 hj2 hy2) h0]
     exact h0,by
     rw[YC,Lz,Qk _ k (VA p x) aui (fun j y hj2 hy=>by
      rw[List.getElem?_map]at hy;obtain⟨y2,hy2,rfl⟩:=Option.map_eq_some_iff.1 hy;exact hj j y2 hj2 hy2) h0],Xr,by obtain⟨y,rfl⟩:=hWV;exact (Kq.plus _ V y).trans hq⟩)
  obtain⟨sk,ZI,ZJ,⟨op,⟨lw,lh,ll⟩,hd,nm,eh,el,ep,ec,eargs⟩,tp,tc,thn,up,uc,els⟩:=rs;obtain⟨sn,⟨tkp,tkc,tkl⟩,sto,⟨kyp,kyc,kyl⟩,⟨csp,csc,csl⟩⟩:=s;simp only[It.ri]at l1 l2 l3;subst l1 l2 l3;rw[Yw]at C2;refine (kZ cb pa _ _ _ _ _ _ _ _ _ _ _ _ _ _ _ _ _ _ _ _ _ _ a _ _ _ _ _ _ _ _ _ _ _ V (fun w'=>MP w0 V p cb kv (.num 6 a 0) (.returned (.tuple #[])) w') (XL p (.num 6 a 0)) (fun w'=>MP w0 V p cb kv (.num 6 a 0) (YJ (XL p (.num 6 a 0))) w') ZC C2 (Yj.c0 _ rfl) (Yj.cs 0 _ rfl) (Yj.cs 1 _ rfl) (Yj.cs 2 _ rfl) (Yj.cs 3 _ rfl) (fun W hW=>(hnx W hW).mono fun e w' h=>?_)).mono ?_
  ·rcases h with h|h
   ·obtain rfl:=h.2.1
    exact .inl ⟨rfl,.inl h⟩
   ·obtain rfl:=h.2.1
    exact .inr ⟨rfl,.inr h⟩
  ·rintro e w' (⟨rfl,h⟩|⟨rfl,h⟩)
   ·exact h
   ·exact h
 | case_ a b s c hs hc hl =>
  have hks:=hK a b s rfl hs;obtain⟨kp,kc,rfl,hkr,-⟩:=hks;have hsz2:=YW Sa.sz p.states.l s (Zo hs);have hs0:p.states.size Sa.sz=(p.states.l.map Sa.sz).sum:=rfl;have hsinV:=Sd.states.kids s (Zo hs);have hcin:=hsinV.cases.kids c (Zo hc);have hcz:=YW Ca.sz s.cases.l c (Zo hc);have Rh:s.sz=1+s.name.size+s.takes.size Y1+s.tX9.size+s.keys.size Ex.wt+s.cases.size Ca.sz:=rfl;have Rf:s.cases.size Ca.sz=(s.cases.l.map Ca.sz).sum:=rfl;have VK:c.sz≤1048576:=asB;have ZC:=(Zi.1 hs).1;have hltc:=(Zi.1 hc).1;obtain⟨pa,Yw,Yj⟩:=Sd.states.row a s hs;obtain⟨pc,hpc,hrowc⟩:=hsinV.cases.row b c hc;have YC:XL p (.num 7 a b)=V7 (TW c.sets.l (s.keys.l.map (UW p))):=by simp[XL,hs,hc,Ns]
  have hbr:=az cb c (s.keys.l.map (UW p)) kp kc V hcin VK (by rw[List.length_map];exact hl) hC.keys hkr;refine M8 _ YC ?_ hV hB (fun a2 h=>asT);obtain⟨R,hR⟩:=ZB (V7 (TW c.sets.l (s.keys.l.map (UW p))));rw[hR]at hbr ⊢;obtain⟨sk,ZI,ZJ,⟨op,⟨lw,lh,ll⟩,hd,nm,eh,el,ep,ec,eargs⟩,tp,tc,thn,up,uc,els⟩:=rs;obtain⟨d,⟨sp,sc,sl⟩,cto⟩:=c;simp only[It.ri]at l1 l2 l3;subst l1 l2 l3;rw[Yw]at C2;have S4:=Yj.cs 3 _ rfl;simp only[Sl.v,hpc]at S4;exact kW cb pa _ _ _ _ _ _ _ _ _ _ _ _ _ _ _ _ _ _ _ _ _ _ a b pc _ _ d sp _ sc cto R V ZC hltc C2 S4 (hrowc.c0 _ rfl) (hrowc.cs 0 _ rfl) (hrowc.cs 1 _ rfl) hbr
 | key a b t k ht hk hm =>
  have ZC:=(Zi.1 ht).1;have htsz:=YW Ta.sz p.tables.l t (Zo ht);have hs0:p.tables.size Ta.sz=(p.tables.l.map Ta.sz).sum:=rfl;have RI:=Sd.tables.kids t (Zo ht);have hkin:=RI.keys.kids k (Zo hk);have hkz:=YW Ke.sz t.keys.l k (Zo hk);have hte:t.sz=1+t.name.size+t.keys.size Ke.sz+t.actions.size Y1+Cl.sz t.dflt:=rfl;have hkk:t.keys.size Ke.sz=(t.keys.l.map Ke.sz).sum:=rfl;have hke:k.sz=1+k.e.wt:=rfl;have hkw:k.e.wt≤1048576:=asB;have hkl:t.keys.l.length≤1048576:=by
   have:=XM Ke.sz (fun y=>by unfold Ke.sz;omega) t.keys.l;omega
  obtain⟨pa,Yw,Yj⟩:=Sd.tables.row a t ht;have kt:=Mj p hz hW (-1) k.e 16 V hm Sd hkin.e hkw;have hkey:=jk cb _ _ _ _ _ _ _ _ _ _ _ _ _ _ _ _ _ _ _ _ _ t.keys.l t.keys.p t.keys.cap b k _ _ V C0 C1 C2 C3 C4 C5 C6 RI.keys.row RI.keys.len hkl hk kt;have YC:XL p (.num 12 a b)=if (if (k.e.ty p (-1)).1=0 then Yz (k.e.ty p (-1)).2 else (k.e.ty p (-1)).1)=0 then (if k.kind=2 then (if (t.keys.l.take b).all fun y=>decide (y.kind≠2) then 0 else 8) else 0) else (if (k.e.ty p (-1)).1=0 then Yz (k.e.ty p (-1)).2 else (k.e.ty p (-1)).1):=by
   simp only[XL,ht];rw[if_neg asE,if_neg asE,if_pos trivial];unfold Fc VA;rw[hk]
  refine M8 _ YC ?_ hV hB (fun a2 h=>asT);clear YC;revert hkey;generalize (if (if (k.e.ty p (-1)).1=0 then Yz (k.e.ty p (-1)).2 else (k.e.ty p (-1)).1)=0 then (if k.kind=2 then (if (t.keys.l.take b).all fun y=>decide (y.kind≠2) then (0:Int) else 8) else 0) else (if (k.e.ty p (-1)).1=0 then Yz (k.e.ty p (-1)).2 else (k.e.ty p (-1)).1))=R;intro hkey;obtain⟨sk,ZI,ZJ,⟨op,⟨lw,lh,ll⟩,hd,nm,eh,el,ep,ec,eargs⟩,tp,tc,thn,up,uc,els⟩:=rs;simp only[It.ri]at l1 l2 l3;subst l1 l2 l3;rw[Yw]at C4;exact kY cb pa _ _ _ _ _ _ _ _ _ _ _ _ _ _ _ _ _ _ _ _ _ _ a b _ _ _ R V ZC C4 (Yj.cs 0 _ rfl) hkey
 | dflt a k t x ht hn hx hl =>
  have ZC:=(Zi.1 ht).1;have htsz:=YW Ta.sz p.tables.l t (Zo ht);have hs0:p.tables.size Ta.sz=(p.tables.l.map Ta.sz).sum:=rfl;have RI:=Sd.tables.kids t (Zo ht);have hal:t.dflt.args.l.length≤1048576:=by
   have:=XM (fun _:Lt=>1) (fun _=>Zt _) t.dflt.args.l;have hte:t.sz=1+t.name.size+t.keys.size Ke.sz+t.actions.size Y1+Cl.sz t.dflt:=rfl;have XF:Cl.sz t.dflt=t.dflt.name.size+t.dflt.args.size (fun _=>1):=rfl;have hca:t.dflt.args.size (fun _=>1)=(t.dflt.args.l.map (fun _=>1)).sum:=rfl;omega
  obtain⟨pa,Yw,Yj⟩:=Sd.tables.row a t ht;have hfb:=aD cb p kv t.dflt k x V Sd hz hC RI.dflt hn hx asB hal;have YC:XL p (.num 14 a 0)=V7 (Ts t.dflt.args.l x.params.l):=by simp[XL,ht,HR,hn,hx]
  refine M8 _ YC ?_ hV hB (fun a2 h=>asT);clear YC;revert hfb;generalize V7 (Ts t.dflt.args.l x.params.l)=R;intro hfb;obtain⟨sk,ZI,ZJ,⟨op,⟨lw,lh,ll⟩,hd,nm,eh,el,ep,ec,eargs⟩,tp,tc,thn,up,uc,els⟩:=rs;obtain⟨tn,tkeys,tacts,⟨dn,⟨gp,gc,gl⟩⟩⟩:=t;simp only[It.ri]at l1 l2 l3;subst l1 l2 l3;rw[Yw]at C4;exact kX cb pa _ _ _ _ _ _ _ _ _ _ _ _ _ _ _ _ _ _ _ _ _ _ a dn gp _ gc R V ZC C4 (Yj.cs 2 _ rfl) (Yj.cs 3 _ rfl) hfb
 | stmt a s hm ht h0 =>
  simp only[It.ri]at l1 l2 l3 l4 l5 l6 l7;have Vp:=aM p hz hW a rs (fun h=>by rw[jY l7];exact hm (by rw[←l4];exact h)) (fun h=>by rw[l5,l6];exact ht (l4▸h)) V Sd hI YB;have YC:XL p (.st a s)=RX p a rs:=(jZ l4 l5 l6 l7).symm;refine M8 _ YC ?_ hV hB (fun a2 h=>asT);generalize RX p a rs=R at Vp ⊢;obtain⟨sk,ZI,ZJ,⟨op,⟨lw,lh,ll⟩,hd,nm,eh,el,ep,ec,eargs⟩,tp,tc,thn,up,uc,els⟩:=rs;subst l1 l2 l3;exact jc cb _ _ _ _ _ _ _ _ _ _ _ _ _ _ _ _ _ _ _ _ _ _ _ _ _ _ _ _ _ _ _ _ _ _ _ _ _ _ _ _ _ _ R V C0 C1 C2 C3 C4 C5 C6 Vp
 | other k a b h =>
  have YC:XL p (.num k a b)=0:=by
   simp only[XL];rw[if_neg h.1,if_neg h.2.1,if_neg h.2.2.2.1,if_neg h.2.2.2.2]
  have e6:(k==6)=false:=beq_eq_false_iff_ne.2 h.1;have e7:(k==7)=false:=beq_eq_false_iff_ne.2 h.2.1;have e10:(k==10)=false:=beq_eq_false_iff_ne.2 h.2.2.1;have e12:(k==12)=false:=beq_eq_false_iff_ne.2 h.2.2.2.1;have e14:(k==14)=false:=beq_eq_false_iff_ne.2 h.2.2.2.2;have hn6:∀a2:Nat,It.num k a b≠.num 6 a2 0:=fun a2 h2=>h.1 (by injection h2);clear h hL hK hI hC C0 C1 C2 C3 C4 C5 C6 hpz Sd l4 l5 l6 l7;simp only[It.ri]at l1 l2 l3;rw[l1,l2,l3];refine M8 0 YC ?_ hV hB hn6;rw[show Yl 0 (.tuple #[])=.returned (.tuple #[]) from rfl];clear YC hn6 l1 l2 l3;obtain⟨sk,ZI,ZJ,⟨op,⟨lw,lh,ll⟩,hd,nm,eh,el,ep,ec,eargs⟩,tp,tc,thn,up,uc,els⟩:=rs;exact jb cb k (a:Int) (b:Int) sk ZI ZJ op lw lh ll hd nm eh el ep eargs.length ec tp thn.length tc up els.length uc V e6 e7 e10 e12 e14
def TV(p:Pr):List It→Nat→Nat × Int
 | [],n=>(n,0)
 | z :: l,n=>if XL p z=0 then TV p l (n+1) else (n,XL p z)
theorem F7(p:Pr):∀(l:List It) (n k:Nat) (z:It),l[k]?=some z→(∀(j:Nat) (y:It),j<k→l[j]?=some y→XL p y=0)→XL p z≠0→TV p l n=(n+k,XL p z)
 | [],_,k,z,h,_,_=>by simp at h
 | y :: l,n,0,z,h,_,hz=>by
  obtain rfl:y=z:=asN;rw[TV,if_neg hz];rfl
 | y :: l,n,k+1,z,h,hj,hz=>by
  rw[TV,if_pos (hj 0 y (Nat.succ_pos k) rfl),F7 p l (n+1) k z asN (fun j u ZC hu=>hj (j+1) u (Nat.succ_lt_succ ZC) (by simpa using hu)) hz];rw[show n+1+k=n+(k+1) by omega]
theorem F6(p:Pr):∀(l:List It) (n:Nat),(∀(j:Nat) (y:It),l[j]?=some y→XL p y=0)→TV p l n=(n+l.length,0)
 | [],_,_=>rfl
 | y :: l,n,h=>by
  rw[TV,if_pos (h 0 y rfl),F6 p l (n+1) fun j u hu=>h (j+1) u (by simpa using hu)];rw[Zk,show n+1+l.length=n+(l.length+1) by omega]
def Nx(l:List It):Prop:=∀(j a b:Nat),l[j]?=some (.num 7 a b)→∃i:Nat,i<j∧l[i]?=some (.num 6 a 0)∧∀i':Nat,i<i'→i'<j→∀a':Nat,l[i']?≠some (.num 6 a' 0)
theorem Nx.none{l:List It}(h:∀a b,It.num 7 a b ∉ l):Nx l:=fun j a b hj=>absurd (Zo hj) (h a b)
theorem Nx.app{x y:List It}(hx:Nx x)(hy:Nx y):Nx (x++y):=fun j a b hj=>by
 by_cases h:j<x.length
 ·rw[List.getElem?_append_left h]at hj
  obtain⟨i,h1,h2,h3⟩:=hx j a b hj;refine⟨i,h1,by rw[List.getElem?_append_left (by omega)];exact h2,fun i' q1 q2 a'=>?_⟩;rw[List.getElem?_append_left asB];exact h3 i' q1 q2 a'
 ·rw[List.getElem?_append_right asB]at hj
  obtain⟨i,h1,h2,h3⟩:=hy _ a b hj;refine⟨x.length+i,asB,by rw[List.getElem?_append_right (by omega),show x.length+i-x.length=i by omega];exact h2,fun i' q1 q2 a'=>?_⟩;rw[List.getElem?_append_right asB];exact h3 _ asB asB a'
theorem Nx.fl{α:Type}(f:Nat→α→List It):∀(l:List α) (b:Nat),(∀i x,Nx (f i x))→Nx (YD f b l)
 | [],_,_=>.none fun _ _ h=>by simp[YD]at h
 | x :: l,b,h=>by
  unfold YD;exact (h b x).app (Nx.fl f l (b+1) h)
theorem Nx.kd{l:List It}(h:∀z∈l,z.kd≠7):Nx l:=.none fun _ _ hm=>h _ hm rfl
theorem gF(a n m:Nat):Nx (VN a n m):=by
 have q:VN a n m=(.num 4 a 0 :: Wu 5 a n)++(.num 6 a 0 :: Wu 7 a m):=by simp[VN]
 rw[q];refine (Nx.kd fun z hz=>?_).app fun j a' b hj=>?_
 ·rcases List.mem_cons.1 hz with rfl|hz
  ·simp[It.kd]
  ·rw[Sm hz];decide
 ·cases j with
  | zero=>simp at hj
  | succ j =>
   rw[List.getElem?_cons_succ]at hj;obtain⟨c,-,e⟩:=UY (Zo hj);injection e with _ e2 _
   subst e2;refine⟨0,Nat.succ_pos _,rfl,fun i' h1 h2 a2 h3=>?_⟩;obtain⟨i2,rfl⟩:∃i2,i'=i2+1:=⟨i'-1,asB⟩;rw[List.getElem?_cons_succ]at h3;have:=Sm (Zo h3);simp[It.kd]at this
theorem gE(p:Pr):Nx (Yh p):=by
 unfold Yh;refine Nx.app (Nx.fl _ _ _ fun i x=>Nx.kd fun z hm=>?_) (Nx.app (Nx.fl _ _ _ fun i x=>Nx.kd fun z hm=>?_) (Nx.app (Nx.fl _ _ _ fun i x=>gF _ _ _) (Nx.app (Nx.fl _ _ _ fun i x=>Nx.kd fun z hm=>?_) (Nx.app (Nx.fl _ _ _ fun i x=>Nx.kd fun z hm=>?_) (Nx.app (Nx.kd fun z hm=>?_) (Nx.fl _ _ _ fun i x=>Nx.kd fun z hm=>?_))))))
 ·rcases List.mem_cons.1 hm with rfl|hm
  ·simp[It.kd]
  ·rw[Sm hm];decide
 ·obtain rfl:=List.mem_singleton.1 hm
  simp[It.kd]
 ·rcases List.mem_cons.1 hm with rfl|hm
  ·simp[It.kd]
  rcases Zn.1 hm with hm|hm
  ·rw[Sm hm];decide
  ·rw[JA _ _ z hm];decide
 ·rcases List.mem_cons.1 hm with rfl|hm
  ·simp[It.kd]
  rcases Zn.1 hm with hm|hm
  ·rw[Sm hm];decide
  rcases Zn.1 hm with hm|hm
  ·rw[Sm hm];decide
  ·exact Dp
 ·rw[JA _ _ z hm];decide
 ·exact Dp
end Go.Proofs.YtknmeggfokpbjaaGreat
