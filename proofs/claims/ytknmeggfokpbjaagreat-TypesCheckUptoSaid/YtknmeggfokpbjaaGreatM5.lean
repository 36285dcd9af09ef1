/-
  WHAT IS PROVED HERE: a part of the proof (made narrower and merged by program; the parts: Zc Zd Ze).
-/
import Derived.Test.YtknmeggfokpbjaaGreatM4
set_option maxRecDepth 100000
set_option maxHeartbeats 8000000
set_option linter.all false
namespace Go.Proofs.YtknmeggfokpbjaaGreat
open Z
open Go.RowKit Go.Proofs.Tryz
open Below renaming refl→Zb
open Ending renaming returned→Zd
open Lib renaming hid→Zf
open List renaming getElem?_eq_some_iff→Zi,length_cons→Zk,mem_of_getElem?→Zo
open Nat renaming le_refl→Zt,zero_le→Zw
open Go.Proofs.Tryz renaming prog→Zx
open Value renaming bool→Zy,int→Zz
open Go.RowKit
theorem YR{V W:World}{z:ZH}{a:Addr}{cs:List Value}(hz:W=plus V z)(h:Yg V a cs):Yg W a cs:=by rw[hz];exact h.plus z
def YF(l:List Hr)(s:ByteArray):Int:=YL (fun x=>x.name.toList==s.toList) l 0
def LI(l:List Sa)(s:ByteArray):Int:=YL (fun x=>x.name.toList==s.toList) l 0
def XD(l:List Ac)(s:ByteArray):Int:=YL (fun x=>x.name.toList==s.toList) l 0
def Tp(l:List Ta)(s:ByteArray):Int:=YL (fun x=>x.name.toList==s.toList) l 0
def Xv(l:List Fd)(s:ByteArray):Int:=YL (fun x=>x.name.toList==s.toList) l 0
def XT(l:List ByteArray)(s:ByteArray):Int:=YL (fun x=>x.toList==s.toList) l 0
theorem H7{α:Type}(q:α→Bool):∀(l:List α) (k:Nat),YL q l k=-1∨((k:Int)≤YL q l k∧YL q l k<(k:Int)+(l.length:Int))
 | [],_=>.inl rfl
 | x :: l,k=>by
  unfold YL;split
  ·right;simp only[Zk];omega
  ·rcases H7 q l (k+1) with h|⟨h1,h2⟩
   ·exact .inl h
   ·right;simp only[Zk];omega
theorem dS(p1 n1 c1 p2 n2 c2 p3 n3 c3 p4 n4 c4 p5 n5 c5 p6 n6 c6)(K:Hr→Prop)(A:Sl Hr)(nm)(w:World)(hA:A.In w 2 Hr.cells K)(hl:A.l.length≤1048576):Kp Zx w 87 #[.agg #[A.v,.slice p1 n1 c1,.slice p2 n2 c2,.slice p3 n3 c3,.slice p4 n4 c4,.slice p5 n5 c5,.slice p6 n6 c6],.string nm] (.int .i64 (YF A.l nm)):=by
 open Z renaming arm→N7 in exact MK
theorem dR(p0 n0 c0 p1 n1 c1 p2 n2 c2 p4 n4 c4 p5 n5 c5 p6 n6 c6)(K:Ac→Prop)(A:Sl Ac)(nm)(w:World)(hA:A.In w 3 Ac.cells K)(hl:A.l.length≤1048576):Kp Zx w 90 #[.agg #[.slice p0 n0 c0,.slice p1 n1 c1,.slice p2 n2 c2,A.v,.slice p4 n4 c4,.slice p5 n5 c5,.slice p6 n6 c6],.string nm] (.int .i64 (XD A.l nm)):=by
 open Z renaming arn→N7 in exact MK
theorem dV(p0 n0 c0 p1 n1 c1 p2 n2 c2 p3 n3 c3 p5 n5 c5 p6 n6 c6)(K:Ta→Prop)(A:Sl Ta)(nm)(w:World)(hA:A.In w 5 Ta.cells K)(hl:A.l.length≤1048576):Kp Zx w 93 #[.agg #[.slice p0 n0 c0,.slice p1 n1 c1,.slice p2 n2 c2,.slice p3 n3 c3,A.v,.slice p5 n5 c5,.slice p6 n6 c6],.string nm] (.int .i64 (Tp A.l nm)):=by
 open Z renaming aro→N7 in exact MK
theorem F0(K:Fd→Prop)(A:Sl Fd)(nm)(w:World)(hA:A.In w 2 Fd.cells K)(hl:A.l.length≤1048576):Kp Zx w 148 #[A.v,.string nm] (.int .i64 (Xv A.l nm)):=by
 open Z renaming arp→N7 in exact MK
theorem F1(K:ByteArray→Prop)(A:Sl ByteArray)(nm)(w:World)(hA:A.In w 1 V1 K)(hl:A.l.length≤1048576):Kp Zx w 162 #[A.v,.string nm] (.int .i64 (XT A.l nm)):=by
 open Z renaming arq→N7 in exact MK
theorem dT(p0 n0 c0 p2 n2 c2 p3 n3 c3 p4 n4 c4 p5 n5 c5 p6 n6 c6)(K:Fd→Prop)(A:Sl Fd)(nm)(w:World)(hA:A.In w 2 Fd.cells K)(hl:A.l.length≤1048576):Kp Zx w 84 #[.agg #[.slice p0 n0 c0,A.v,.slice p2 n2 c2,.slice p3 n3 c3,.slice p4 n4 c4,.slice p5 n5 c5,.slice p6 n6 c6],.string nm] (.int .i64 (Xv A.l nm)):=by
 intro y0;have hc:=(F0 K A nm w hA hl).up y0;obtain⟨V,hV⟩:=ZB (plus w y0);rw[hV]at hc ⊢;clear hV hA hl;obtain⟨ap,ac,al⟩:=A;simp only[Sl.v]at hc ⊢;obtain⟨n,hn⟩:=ZB al.length;rw[hn]at hc ⊢;have Yo:=Zf hc;clear hn hc;go_enter func84,ntmps84;go_upto_region 1 with (fail)
 obtain⟨W,yy,hW,⟨z,hz⟩,ca⟩:=YO V _ 30;rw[hW];have b1:=ca 1 _ rfl;have qc:=Zf (ZK hz Yo.out);have ZG:=Zf hz;clear hW hz ca Yo;go_wp2_with (first|(go_at_call 148;with_reducible refine (qc.out _).mono ?_;rintro r w' ⟨rfl,x,rfl⟩));exact SY
def W9(l:List Sa)(s:ByteArray):Int × Bool :=
 if s.toList==[97,99,99,101,112,116] then (-1,true) else if s.toList==[114,101,106,101,99,116] then (-2,true) else if LI l s==-1 then (0,false) else (LI l s,true)
theorem dU(p0 n0 c0 p1 n1 c1 p3 n3 c3 p4 n4 c4 p5 n5 c5 p6 n6 c6)(K:Sa→Prop)(A:Sl Sa)(nm)(w:World)(hA:A.In w 5 Sa.cells K)(hl:A.l.length≤1048576):Kp Zx w 85 #[.agg #[.slice p0 n0 c0,.slice p1 n1 c1,A.v,.slice p3 n3 c3,.slice p4 n4 c4,.slice p5 n5 c5,.slice p6 n6 c6],.string nm] (.tuple #[.int .i64 (W9 A.l nm).1,.bool (W9 A.l nm).2]):=by
 open Z renaming arr→N7 in exact MK
theorem U4{p:Pr}(hz:p.sz≤1048576):p.headers.l.length≤1048576∧p.metas.l.length≤1048576∧p.states.l.length≤1048576∧p.actions.l.length≤1048576∧p.tables.l.length≤1048576∧p.emit.l.length≤1048576:=by
 have hs:p.sz=p.headers.size Hr.sz+p.metas.size Fd.sz+p.states.size Sa.sz+p.actions.size Ac.sz+p.tables.size Ta.sz+p.control.size St.sz+p.emit.size Y1:=rfl;exact⟨Xk Hr.sz (fun y=>atg) p.headers asB,Xk Fd.sz Fd.sz_pos p.metas asB,Xk Sa.sz (fun y=>by unfold Sa.sz;omega) p.states asB,Xk Ac.sz (fun y=>ath) p.actions asB,Xk Ta.sz (fun y=>by unfold Ta.sz;omega) p.tables asB,Xk Y1 Eh p.emit asB⟩
section
variable (p:Pr) (w:World) (h:p.In w) (hz:p.sz≤1048576) (s:ByteArray)
include h hz
theorem OM:Kp Zx w 87 #[.agg #[.slice p.headers.p p.headers.l.length p.headers.cap,.slice p.metas.p p.metas.l.length p.metas.cap,.slice p.states.p p.states.l.length p.states.cap,.slice p.actions.p p.actions.l.length p.actions.cap,.slice p.tables.p p.tables.l.length p.tables.cap,.slice p.control.p p.control.l.length p.control.cap,.slice p.emit.p p.emit.l.length p.emit.cap],.string s] (.int .i64 (YF p.headers.l s)):=dS _ _ _ _ _ _ _ _ _ _ _ _ _ _ _ _ _ _ _ p.headers s w h.headers (U4 hz).1
theorem JQ:Kp Zx w 84 #[.agg #[.slice p.headers.p p.headers.l.length p.headers.cap,.slice p.metas.p p.metas.l.length p.metas.cap,.slice p.states.p p.states.l.length p.states.cap,.slice p.actions.p p.actions.l.length p.actions.cap,.slice p.tables.p p.tables.l.length p.tables.cap,.slice p.control.p p.control.l.length p.control.cap,.slice p.emit.p p.emit.l.length p.emit.cap],.string s] (.int .i64 (Xv p.metas.l s)):=dT _ _ _ _ _ _ _ _ _ _ _ _ _ _ _ _ _ _ _ p.metas s w h.metas (U4 hz).2.1
theorem yC:Kp Zx w 85 #[.agg #[.slice p.headers.p p.headers.l.length p.headers.cap,.slice p.metas.p p.metas.l.length p.metas.cap,.slice p.states.p p.states.l.length p.states.cap,.slice p.actions.p p.actions.l.length p.actions.cap,.slice p.tables.p p.tables.l.length p.tables.cap,.slice p.control.p p.control.l.length p.control.cap,.slice p.emit.p p.emit.l.length p.emit.cap],.string s] (.tuple #[.int .i64 (W9 p.states.l s).1,.bool (W9 p.states.l s).2]):=dU _ _ _ _ _ _ _ _ _ _ _ _ _ _ _ _ _ _ _ p.states s w h.states (U4 hz).2.2.1
theorem JO:Kp Zx w 90 #[.agg #[.slice p.headers.p p.headers.l.length p.headers.cap,.slice p.metas.p p.metas.l.length p.metas.cap,.slice p.states.p p.states.l.length p.states.cap,.slice p.actions.p p.actions.l.length p.actions.cap,.slice p.tables.p p.tables.l.length p.tables.cap,.slice p.control.p p.control.l.length p.control.cap,.slice p.emit.p p.emit.l.length p.emit.cap],.string s] (.int .i64 (XD p.actions.l s)):=dR _ _ _ _ _ _ _ _ _ _ _ _ _ _ _ _ _ _ _ p.actions s w h.actions (U4 hz).2.2.2.1
theorem yD:Kp Zx w 93 #[.agg #[.slice p.headers.p p.headers.l.length p.headers.cap,.slice p.metas.p p.metas.l.length p.metas.cap,.slice p.states.p p.states.l.length p.states.cap,.slice p.actions.p p.actions.l.length p.actions.cap,.slice p.tables.p p.tables.l.length p.tables.cap,.slice p.control.p p.control.l.length p.control.cap,.slice p.emit.p p.emit.l.length p.emit.cap],.string s] (.int .i64 (Tp p.tables.l s)):=dV _ _ _ _ _ _ _ _ _ _ _ _ _ _ _ _ _ _ _ p.tables s w h.tables (U4 hz).2.2.2.2.1
end
theorem Px(a b w):Kp Zx w 82 #[.int .i64 a,.int .i64 b] (.int .i64 (if a=b then 0 else 8)):=by
 intro y0;obtain⟨V,hV⟩:=ZB (plus w y0);rw[hV];clear hV;by_cases q:a=b
 ·rw[if_pos q]
  subst q;exact rI
 ·rw[if_neg q]
  exact rI
theorem LF(a w):Kp Zx w 86 #[.int .i64 a] (.int .i64 (if a=-1 then 7 else 0)):=by
 intro y0;obtain⟨V,hV⟩:=ZB (plus w y0);rw[hV];clear hV;by_cases q:a=-1
 ·rw[if_pos q]
  subst q;exact rQ
 ·rw[if_neg q]
  exact rQ
theorem yF(p:Pr)(w:World)(h:p.In w)(hz:p.sz≤1048576)(s):Kp Zx w 89 #[.agg #[.slice p.headers.p p.headers.l.length p.headers.cap,.slice p.metas.p p.metas.l.length p.metas.cap,.slice p.states.p p.states.l.length p.states.cap,.slice p.actions.p p.actions.l.length p.actions.cap,.slice p.tables.p p.tables.l.length p.tables.cap,.slice p.control.p p.control.l.length p.control.cap,.slice p.emit.p p.emit.l.length p.emit.cap],.string s] (.int .i64 (if (W9 p.states.l s).2 then 0 else 7)):=by
 intro y0;have hS:=(yC p w h hz s).up y0;obtain⟨V,hV⟩:=ZB (plus w y0);rw[hV]at hS ⊢;clear hV h hz;obtain⟨⟨I,b⟩,hR⟩:∃R,W9 p.states.l s=R:=⟨_,rfl⟩;rw[hR]at hS ⊢;have Vn:=Zf hS;clear hS hR;go_enter func89,ntmps89;go_upto_region 1 with (fail)
 obtain⟨W,yy,hW,⟨z,hz⟩,ca⟩:=YO V _ 30;rw[hW];open Z renaming ag9→Ll in exact L6
def X5(p:Pr)(i:Int)(s:ByteArray):Int:=if i<0 then -1 else match p.headers.l[i.toNat]? with|none=>-1|some x=>Xv x.fields.l s
theorem JP(p:Pr)(w:World)(h:p.In w)(hz:p.sz≤1048576)(i s):Kp Zx w 83 #[.agg #[.slice p.headers.p p.headers.l.length p.headers.cap,.slice p.metas.p p.metas.l.length p.metas.cap,.slice p.states.p p.states.l.length p.states.cap,.slice p.actions.p p.actions.l.length p.actions.cap,.slice p.tables.p p.tables.l.length p.tables.cap,.slice p.control.p p.control.l.length p.control.cap,.slice p.emit.p p.emit.l.length p.emit.cap],.int .i64 i,.string s] (.int .i64 (X5 p i s)):=by
 intro y0;have hr:=h.headers.row.plus y0;have hf:∀x∈p.headers.l,Kp Zx w 148 #[x.fields.v,.string s] (.int .i64 (Xv x.fields.l s)):=fun x hx=>by
  have h1:=YW Hr.sz p.headers.l x hx;open Z renaming aeQ→NL in exact Mr
 open Z renaming afS→B8 in exact vC
def WN(p:Pr)(i:Int)(s:ByteArray):Int:=if i<0 then -1 else match p.actions.l[i.toNat]? with|none=>-1|some x=>Xv x.params.l s
theorem FL(p:Pr)(w:World)(h:p.In w)(hz:p.sz≤1048576)(i s):Kp Zx w 91 #[.agg #[.slice p.headers.p p.headers.l.length p.headers.cap,.slice p.metas.p p.metas.l.length p.metas.cap,.slice p.states.p p.states.l.length p.states.cap,.slice p.actions.p p.actions.l.length p.actions.cap,.slice p.tables.p p.tables.l.length p.tables.cap,.slice p.control.p p.control.l.length p.control.cap,.slice p.emit.p p.emit.l.length p.emit.cap],.int .i64 i,.string s] (.int .i64 (WN p i s)):=by
 intro y0;have hr:=h.actions.row.plus y0;have hf:∀x∈p.actions.l,Kp Zx w 148 #[x.params.v,.string s] (.int .i64 (Xv x.params.l s)):=fun x hx=>by
  have h1:=YW Ac.sz p.actions.l x hx;open Z renaming aeR→NL in exact Mr
 open Z renaming afU→B9 in exact vD
def V5(l:List Fd):Int:=l.foldl (fun s f=>wrap64 (s+f.w)) 0
theorem Cs(l:List Fd)(k:Nat)(x:Fd)(h:l[k]?=some x):V5 (l.take (k+1))=wrap64 (V5 (l.take k)+x.w):=by
 obtain⟨h1,rfl⟩:=Zi.1 h;unfold V5;rw[List.take_succ_eq_append_getElem h1,List.foldl_append];rfl
theorem MS{W:World}{y:ZH}(o:Obj):∃x,(plus W y).alloc o=plus W x:=by
 obtain⟨x,hx⟩:=Yy ((Zb (plus W y).heap.size (plus W y)).alloc (Zt _) o);exact⟨_,by rw[hx,ZD]⟩
theorem ev(nm)(A:Sl Fd)(w:World)(K:Fd→Prop)(hA:A.In w 2 Fd.cells K)(hl:A.l.length≤1048576):Kp Zx w 147 #[.agg #[.string nm,A.v]] (.int .i64 (V5 A.l)):=by
 open Z renaming aiP→Az in exact uA
def YP(p:Pr)(act:Int)(e:Ex):Bool:=if e.op=2 then (X5 p (YF p.headers.l e.head) e.name !=-1) else if e.op=3 then (Xv p.metas.l e.name !=-1) else if e.op=4 then (WN p act e.name !=-1) else if e.op=6 then (YF p.headers.l e.head !=-1) else true
theorem ey(p:Pr)(w:World)(h:p.In w)(hz:p.sz≤1048576)(act)(e:Ex):Kp Zx w 159 #[.agg #[.slice p.headers.p p.headers.l.length p.headers.cap,.slice p.metas.p p.metas.l.length p.metas.cap,.slice p.states.p p.states.l.length p.states.cap,.slice p.actions.p p.actions.l.length p.actions.cap,.slice p.tables.p p.tables.l.length p.tables.cap,.slice p.control.p p.control.l.length p.control.cap,.slice p.emit.p p.emit.l.length p.emit.cap],.int .i64 act,.agg #[.int .u8 e.op,.int .i64 e.lit.w,.int .u64 e.lit.h,.int .u64 e.lit.l,.string e.head,.string e.name,.int .i64 e.hi,.int .i64 e.lo,.slice e.p e.args.length e.cap]] (.bool (YP p act e)):=by
 intro y0;have ZL:=(OM p w h hz e.head).up y0;have ZT:=(JP p w h hz (YF p.headers.l e.head) e.name).up y0;have Ys:=(JQ p w h hz e.name).up y0;have YQ:=(FL p w h hz act e.name).up y0;obtain⟨V,hV⟩:=ZB (plus w y0);rw[hV]at ZL ZT Ys YQ ⊢;clear hV h hz;obtain⟨R,hR⟩:=ZB (YP p act e);rw[hR];unfold YP at hR;generalize X5 p (YF p.headers.l e.head) e.name=I2 at hR ZT;generalize YF p.headers.l e.head=I1 at hR ZL ZT;generalize Xv p.metas.l e.name=I3 at hR Ys;generalize WN p act e.name=I4 at hR YQ;have g2:=Zf (show e.op=2→(I2 !=-1)=R from fun h=>by rw[←hR,if_pos h]);have g3:=Zf (show e.op=3→(I3 !=-1)=R from fun h=>by rw[←hR,if_neg (by omega),if_pos h]);have g4:=Zf (show e.op=4→(I4 !=-1)=R from fun h=>by rw[←hR,if_neg (by omega),if_neg (by omega),if_pos h]);have g6:=Zf (show e.op=6→(I1 !=-1)=R from fun h=>by rw[←hR,if_neg (by omega),if_neg (by omega),if_neg (by omega),if_pos h]);have g0:=Zf (show e.op≠2→e.op≠3→e.op≠4→e.op≠6→true=R from fun h h1 h2 h3=>by rw[←hR,if_neg h,if_neg h1,if_neg h2,if_neg h3]);have ZL':=Zf ZL;have ZT':=Zf ZT;have Ys':=Zf Ys;have YQ':=Zf YQ;clear hR ZL ZT Ys YQ;open Z renaming ai6→Jf in exact IL
mutual
/-- .. and of all in it? -/
def Ex.there(f:Ex→Bool):Ex→Bool
 | .mk op lit hd nm hi lo p c l=>f (.mk op lit hd nm hi lo p c l)&&Ex.theres f l
def Ex.theres(f:Ex→Bool):List Ex→Bool
 | []=>true
 | x :: l=>x.there f&&Ex.theres f l
end
theorem Ex.theres_all(f:Ex→Bool):∀l:List Ex,Ex.theres f l=l.all (Ex.there f)
 | []=>by simp[Ex.theres]
 | x :: l=>by simp[Ex.theres,Ex.theres_all f l]
theorem Ex.there_eq(f:Ex→Bool)(e:Ex):e.there f=(f e&&e.args.all (Ex.there f)):=by
 cases e;simp[Ex.there,Ex.theres_all,Ex.args]
theorem Ba{α:Type}(q:α→Bool):∀(l:List α) (k:Nat),(YL (fun x=>!q x) l k==-1)=l.all q
 | [],_=>by simp[YL]
 | x :: l,k=>by
  unfold YL;cases h:q x with
  | true=>simp only[Bool.not_true,Bool.false_eq_true,if_false,List.all_cons,h,Bool.true_and];exact Ba q l (k+1)
  | false =>
   simp only[Bool.not_false,if_true,List.all_cons,h,Bool.false_and];rw[beq_eq_false_iff_ne];omega
theorem iW(bt:Nat)(fv:Value)(g:FuncId)(caps:Array Value)(hfv:fv=.func (.func g) #[] caps)(Xb:∀args w,(callFunc g args).run Zx w=.ok (.enter g args) w)(e:Ex)(b)(w:World)(hc:w.cell? ⟨bt,0,none⟩=some fv)(hX:Kp Zx w g (#[.agg #[.int .u8 e.op,.int .i64 e.lit.w,.int .u64 e.lit.h,.int .u64 e.lit.l,.string e.head,.string e.name,.int .i64 e.hi,.int .i64 e.lo,.slice e.p e.args.length e.cap]]++caps) (.bool b)):Kp Zx w 161 #[.agg #[.int .u8 e.op,.int .i64 e.lit.w,.int .u64 e.lit.h,.int .u64 e.lit.l,.string e.head,.string e.name,.int .i64 e.hi,.int .i64 e.lo,.slice e.p e.args.length e.cap],.pointer (some ⟨bt,0,none⟩)] (.bool (!b)):=by
 intro y0;have hX:=hX.up y0;have hc:=ZS hc y0;obtain⟨V,hV⟩:=ZB (plus w y0);rw[hV]at hX hc ⊢;clear hV;have hc2:=fun o:Obj=>YG hc o;have hX':=Zf hX;have Yo:=Zf hc;clear hX hc;open Z renaming ai7→Jf in exact IL
end Go.Proofs.YtknmeggfokpbjaaGreat
