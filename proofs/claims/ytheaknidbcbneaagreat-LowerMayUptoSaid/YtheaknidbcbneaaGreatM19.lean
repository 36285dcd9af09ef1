/-
  WHAT IS PROVED HERE: a part of the proof (made narrower and merged by program; the parts: Zd Ze UU Ha).
-/
import Derived.Lib.IndexBytes
import Derived.Lib.Strings
import Derived.Test.YtheaknidbcbneaaGreatM18
import Derived.Test.YtheaknidbcbneaaGreatM1
set_option maxRecDepth 100000
set_option maxHeartbeats 8000000
set_option linter.all false
set_option linter.unusedSectionVars false
namespace Go.Proofs.YtheaknidbcbneaaGreat
open Go.RowKit Go.Proofs.Tryz
open Below renaming refl→Zc
open Bool renaming true_and→Ze
open Ending renaming returned→Zf
open Lib renaming hid→Zg
open List renaming mem_of_getElem?→Zl
open Nat renaming le_refl→Zp,zero_le→Zq
open Go.Proofs.Tryz renaming prog→Zr
open Value renaming bool→Zs,int→Zt
open Go.RowKit
theorem Oi{p:Pr}(hz:p.sz≤1048576):p.headers.l.length≤1048576∧p.metas.l.length≤1048576∧p.states.l.length≤1048576∧p.actions.l.length≤1048576∧p.tables.l.length≤1048576∧p.emit.l.length≤1048576:=by
 have hs:p.sz=p.headers.size Hr.sz+p.metas.size Fd.sz+p.states.size Sa.sz+p.actions.size Ac.sz+p.tables.size Ta.sz+p.control.size St.sz+p.emit.size XH:=rfl;exact⟨UN Hr.sz (fun y=>by unfold Hr.sz;omega) p.headers (by omega),UN Fd.sz Fd.sz_pos p.metas (by omega),UN Sa.sz (fun y=>by unfold Sa.sz;omega) p.states (by omega),UN Ac.sz (fun y=>by unfold Ac.sz;omega) p.actions (by omega),UN Ta.sz (fun y=>by unfold Ta.sz;omega) p.tables (by omega),UN XH G4 p.emit (by omega)⟩
section
variable (p:Pr) (w:World) (h:p.In w) (hz:p.sz≤1048576) (s:ByteArray)
include h hz
theorem Om:Kp Zr w 146 #[.agg #[.slice p.headers.p p.headers.l.length p.headers.cap,.slice p.metas.p p.metas.l.length p.metas.cap,.slice p.states.p p.states.l.length p.states.cap,.slice p.actions.p p.actions.l.length p.actions.cap,.slice p.tables.p p.tables.l.length p.tables.cap,.slice p.control.p p.control.l.length p.control.cap,.slice p.emit.p p.emit.l.length p.emit.cap],.string s] (.int .i64 (XN p.headers.l s)):=Hz _ _ _ _ _ _ _ _ _ _ _ _ _ _ _ _ _ _ _ p.headers s w h.headers (Oi hz).1
theorem Oo:Kp Zr w 144 #[.agg #[.slice p.headers.p p.headers.l.length p.headers.cap,.slice p.metas.p p.metas.l.length p.metas.cap,.slice p.states.p p.states.l.length p.states.cap,.slice p.actions.p p.actions.l.length p.actions.cap,.slice p.tables.p p.tables.l.length p.tables.cap,.slice p.control.p p.control.l.length p.control.cap,.slice p.emit.p p.emit.l.length p.emit.cap],.string s] (.int .i64 (X1 p.metas.l s)):=HA _ _ _ _ _ _ _ _ _ _ _ _ _ _ _ _ _ _ _ p.metas s w h.metas (Oi hz).2.1
end
def Wr(p:Pr)(i:Int)(s:ByteArray):Int:=if i<0 then -1 else match p.headers.l[i.toNat]? with|none=>-1|some x=>X1 x.fields.l s
theorem Ol(p:Pr)(w:World)(h:p.In w)(hz:p.sz≤1048576)(i s):Kp Zr w 143 #[.agg #[.slice p.headers.p p.headers.l.length p.headers.cap,.slice p.metas.p p.metas.l.length p.metas.cap,.slice p.states.p p.states.l.length p.states.cap,.slice p.actions.p p.actions.l.length p.actions.cap,.slice p.tables.p p.tables.l.length p.tables.cap,.slice p.control.p p.control.l.length p.control.cap,.slice p.emit.p p.emit.l.length p.emit.cap],.int .i64 i,.string s] (.int .i64 (Wr p i s)):=by
 intro y0;have hr:=h.headers.row.plus y0;have hf:∀x∈p.headers.l,Kp Zr w 145 #[x.fields.v,.string s] (.int .i64 (X1 x.fields.l s)):=fun x hx=>by
  have h1:=We Hr.sz p.headers.l x hx;have h2:p.sz=p.headers.size Hr.sz+p.metas.size Fd.sz+p.states.size Sa.sz+p.actions.size Ac.sz+p.tables.size Ta.sz+p.control.size St.sz+p.emit.size XH:=rfl;have h3:p.headers.size Hr.sz=(p.headers.l.map Hr.sz).sum:=rfl;have h4:x.fields.size Fd.sz≤x.sz:=by unfold Hr.sz;omega
  exact Qg _ x.fields s w (h.headers.kids x hx).fields (UN Fd.sz Fd.sz_pos x.fields (by omega))
 have hf:=fun x hx=>(hf x hx).up y0;obtain⟨V,hV⟩:=Zv (plus w y0);simp only[hV]at hf hr ⊢;clear hV h hz;have Yu:=Zg hf;have Vq:=Zg hr;clear hf hr;obtain⟨R,hR⟩:=Zv (Wr p i s);rw[hR];have Yi:=Zg hR;clear hR;obtain⟨A,hA⟩:=Zv p.headers;have ZR:=Zg hA;rw[hA];clear hA;obtain⟨ap,ac,al⟩:=A;obtain⟨n,hn⟩:=Zv al.length;simp only[hn];have ZJ:=Zg hn;clear hn;go_enter func143,ntmps143;go_upto_region 1 with (fail)
 obtain⟨W,yy,hW,⟨z,hz⟩,ca⟩:=Ya V _ 76;rw[hW];have c0:=ca 0 _ rfl;have Ym:=Zg hz;clear hW ca;by_cases q1:i<0
 ·have e:=Zg (show (-1:Int)=R by rw[←Yi.out];unfold Wr;rw[if_pos q1])
  clear Yi Yu Vq hz ZR;go_wp2;go_ret;exact⟨congrArg (fun z=>Zf (Zt .i64 z)) e.out,by rw[Ym.out,Zx];exact⟨_,rfl⟩⟩
 obtain⟨k,rfl⟩:∃k:Nat,i=(k:Int):=⟨i.toNat,by omega⟩;clear q1;by_cases q2:k<n
 ·obtain⟨x,hx⟩:=Z6 al k (by rw[ZJ.out];exact q2)
  have e:=Zg (show X1 x.fields.l s=R by rw[←Yi.out];unfold Wr;rw[if_neg (by omega),Int.toNat_natCast,ZR.out];simp only[hx]);rw[ZR.out]at Vq Yu;obtain⟨pa,ha,hc⟩:=Vq.out k x hx;simp only at ha;subst ha;have hc:=Xn hz hc;have qc:=Zg (Zy hz (Yu.out x (Zl hx)));have d0:=fun y=>(hc.plus y).c0 _ rfl;have d1:=fun y=>(hc.plus y).cs 0 _ rfl;clear Yi Yu Vq hz ZR hc hx ZJ;simp only[Hr.cells,Sl.v]at *;go_wp2_with (first|(go_at_call 145;with_reducible refine (qc.out _).mono ?_;rintro r w' ⟨rfl,x,rfl⟩));go_ret;exact⟨congrArg (fun z=>Zf (Zt .i64 z)) e.out,by rw[Ym.out,Zx];exact⟨_,rfl⟩⟩
 ·have e:=Zg (show (-1:Int)=R by
   rw[←Yi.out];unfold Wr;rw[if_neg (by omega),Int.toNat_natCast,ZR.out];simp only[List.getElem?_eq_none (show al.length≤k by rw[ZJ.out];omega)])
  clear Yi Yu Vq hz ZR;go_wp2;go_ret;exact⟨congrArg (fun z=>Zf (Zt .i64 z)) e.out,by rw[Ym.out,Zx];exact⟨_,rfl⟩⟩
def WQ(p:Pr)(i:Int)(s:ByteArray):Int:=if i<0 then -1 else match p.actions.l[i.toNat]? with|none=>-1|some x=>X1 x.params.l s
theorem Oq(p:Pr)(w:World)(h:p.In w)(hz:p.sz≤1048576)(i s):Kp Zr w 116 #[.agg #[.slice p.headers.p p.headers.l.length p.headers.cap,.slice p.metas.p p.metas.l.length p.metas.cap,.slice p.states.p p.states.l.length p.states.cap,.slice p.actions.p p.actions.l.length p.actions.cap,.slice p.tables.p p.tables.l.length p.tables.cap,.slice p.control.p p.control.l.length p.control.cap,.slice p.emit.p p.emit.l.length p.emit.cap],.int .i64 i,.string s] (.int .i64 (WQ p i s)):=by
 intro y0;have hr:=h.actions.row.plus y0;have hf:∀x∈p.actions.l,Kp Zr w 145 #[x.params.v,.string s] (.int .i64 (X1 x.params.l s)):=fun x hx=>by
  have h1:=We Ac.sz p.actions.l x hx;have h2:p.sz=p.headers.size Hr.sz+p.metas.size Fd.sz+p.states.size Sa.sz+p.actions.size Ac.sz+p.tables.size Ta.sz+p.control.size St.sz+p.emit.size XH:=rfl;have h3:p.actions.size Ac.sz=(p.actions.l.map Ac.sz).sum:=rfl;have h4:x.params.size Fd.sz≤x.sz:=by unfold Ac.sz;omega
  exact Qg _ x.params s w (h.actions.kids x hx).params (UN Fd.sz Fd.sz_pos x.params (by omega))
 have hf:=fun x hx=>(hf x hx).up y0;obtain⟨V,hV⟩:=Zv (plus w y0);simp only[hV]at hf hr ⊢;clear hV h hz;have Yu:=Zg hf;have Vq:=Zg hr;clear hf hr;obtain⟨R,hR⟩:=Zv (WQ p i s);rw[hR];have Yi:=Zg hR;clear hR;obtain⟨A,hA⟩:=Zv p.actions;have ZR:=Zg hA;rw[hA];clear hA;obtain⟨ap,ac,al⟩:=A;obtain⟨n,hn⟩:=Zv al.length;simp only[hn];have ZJ:=Zg hn;clear hn;go_enter func116,ntmps116;go_upto_region 1 with (fail)
 obtain⟨W,yy,hW,⟨z,hz⟩,ca⟩:=Ya V _ 76;rw[hW];have c3:=ca 3 _ rfl;have Ym:=Zg hz;clear hW ca;by_cases q1:i<0
 ·have e:=Zg (show (-1:Int)=R by rw[←Yi.out];unfold WQ;rw[if_pos q1])
  clear Yi Yu Vq hz ZR;go_wp2;go_ret;exact⟨congrArg (fun z=>Zf (Zt .i64 z)) e.out,by rw[Ym.out,Zx];exact⟨_,rfl⟩⟩
 obtain⟨k,rfl⟩:∃k:Nat,i=(k:Int):=⟨i.toNat,by omega⟩;clear q1;by_cases q2:k<n
 ·obtain⟨x,hx⟩:=Z6 al k (by rw[ZJ.out];exact q2)
  have e:=Zg (show X1 x.params.l s=R by rw[←Yi.out];unfold WQ;rw[if_neg (by omega),Int.toNat_natCast,ZR.out];simp only[hx]);rw[ZR.out]at Vq Yu;obtain⟨pa,ha,hc⟩:=Vq.out k x hx;simp only at ha;subst ha;have hc:=Xn hz hc;have qc:=Zg (Zy hz (Yu.out x (Zl hx)));have d0:=fun y=>(hc.plus y).c0 _ rfl;have d1:=fun y=>(hc.plus y).cs 0 _ rfl;have d2:=fun y=>(hc.plus y).cs 1 _ rfl;clear Yi Yu Vq hz ZR hc hx ZJ;simp only[Ac.cells,Sl.v]at *;go_wp2_with (first|(go_at_call 145;with_reducible refine (qc.out _).mono ?_;rintro r w' ⟨rfl,x,rfl⟩));go_ret;exact⟨congrArg (fun z=>Zf (Zt .i64 z)) e.out,by rw[Ym.out,Zx];exact⟨_,rfl⟩⟩
 ·have e:=Zg (show (-1:Int)=R by
   rw[←Yi.out];unfold WQ;rw[if_neg (by omega),Int.toNat_natCast,ZR.out];simp only[List.getElem?_eq_none (show al.length≤k by rw[ZJ.out];omega)])
  clear Yi Yu Vq hz ZR;go_wp2;go_ret;exact⟨congrArg (fun z=>Zf (Zt .i64 z)) e.out,by rw[Ym.out,Zx];exact⟨_,rfl⟩⟩
theorem QO{W:World}{y:ZA}(o:Obj):∃x,(plus W y).alloc o=plus W x:=by
 obtain⟨x,hx⟩:=ZS ((Zc (plus W y).heap.size (plus W y)).alloc (Zp _) o);exact⟨_,by rw[hx,Zx]⟩
def Xu(p:Pr)(act:Int)(e:Ex):Bool:=if e.op=2 then (Wr p (XN p.headers.l e.head) e.name !=-1) else if e.op=3 then (X1 p.metas.l e.name !=-1) else if e.op=4 then (WQ p act e.name !=-1) else if e.op=6 then (XN p.headers.l e.head !=-1) else true
theorem Hv(p:Pr)(w:World)(h:p.In w)(hz:p.sz≤1048576)(act)(e:Ex):Kp Zr w 153 #[.agg #[.slice p.headers.p p.headers.l.length p.headers.cap,.slice p.metas.p p.metas.l.length p.metas.cap,.slice p.states.p p.states.l.length p.states.cap,.slice p.actions.p p.actions.l.length p.actions.cap,.slice p.tables.p p.tables.l.length p.tables.cap,.slice p.control.p p.control.l.length p.control.cap,.slice p.emit.p p.emit.l.length p.emit.cap],.int .i64 act,.agg #[.int .u8 e.op,.int .i64 e.lit.w,.int .u64 e.lit.h,.int .u64 e.lit.l,.string e.head,.string e.name,.int .i64 e.hi,.int .i64 e.lo,.slice e.p e.args.length e.cap]] (.bool (Xu p act e)):=by
 intro y0;have k1:=(Om p w h hz e.head).up y0;have k2:=(Ol p w h hz (XN p.headers.l e.head) e.name).up y0;have k3:=(Oo p w h hz e.name).up y0;have k4:=(Oq p w h hz act e.name).up y0;obtain⟨V,hV⟩:=Zv (plus w y0);rw[hV]at k1 k2 k3 k4 ⊢;clear hV h hz;obtain⟨R,hR⟩:=Zv (Xu p act e);rw[hR];unfold Xu at hR;generalize Wr p (XN p.headers.l e.head) e.name=I2 at hR k2;generalize XN p.headers.l e.head=I1 at hR k1 k2;generalize X1 p.metas.l e.name=I3 at hR k3;generalize WQ p act e.name=I4 at hR k4;have g2:=Zg (show e.op=2→(I2 !=-1)=R from fun h=>by rw[←hR,if_pos h]);have g3:=Zg (show e.op=3→(I3 !=-1)=R from fun h=>by rw[←hR,if_neg (by omega),if_pos h]);have g4:=Zg (show e.op=4→(I4 !=-1)=R from fun h=>by rw[←hR,if_neg (by omega),if_neg (by omega),if_pos h]);have g6:=Zg (show e.op=6→(I1 !=-1)=R from fun h=>by rw[←hR,if_neg (by omega),if_neg (by omega),if_neg (by omega),if_pos h]);have g0:=Zg (show e.op≠2→e.op≠3→e.op≠4→e.op≠6→true=R from fun h h1 h2 h3=>by rw[←hR,if_neg h,if_neg h1,if_neg h2,if_neg h3]);have k1':=Zg k1;have k2':=Zg k2;have k3':=Zg k3;have k4':=Zg k4;clear hR k1 k2 k3 k4;obtain⟨op,⟨lw,lh,ll⟩,hd,nm,hi,lo,ep,ec,el⟩:=e;simp only[Ex.op,Ex.lit,Ex.head,Ex.name,Ex.hi,Ex.lo,Ex.p,Ex.cap,Ex.args]at *;go_enter func153,ntmps153;go_upto_region 1 with (fail)
 obtain⟨W,yy,hW,⟨z,hz⟩,ca,cb⟩:=ZF V _ _ 76 65;rw[hW];have c0:=ca 0 _ rfl;have c1:=ca 1 _ rfl;have c2:=ca 2 _ rfl;have c3:=ca 3 _ rfl;have c4:=ca 4 _ rfl;have c5:=ca 5 _ rfl;have c6:=ca 6 _ rfl;have b0:=cb 0 _ rfl;have b1:=cb 1 _ rfl;have b2:=cb 2 _ rfl;have b3:=cb 3 _ rfl;have b4:=cb 4 _ rfl;have b5:=cb 5 _ rfl;have b6:=cb 6 _ rfl;have b7:=cb 7 _ rfl;have b8:=cb 8 _ rfl;have q1:=Zg (Zy hz k1'.out);have q2:=Zg (Zy hz k2'.out);have q3:=Zg (Zy hz k3'.out);have q4:=Zg (Zy hz k4'.out);have Ym:=Zg hz;clear hW hz ca cb k1' k2' k3' k4';by_cases o2:op=2
 ·have Z0:=Zg (g2.out o2)
  subst o2;clear g0 g2 g3 g4 g6 q3 q4;go_upto_region 3 with (fail)
  refine ZP (by kernel_rfl) (by kernel_rfl) ?_;repeat (go_big_quiet_step (first|(with_reducible exact q1.out _)|(with_reducible exact q2.out _)))
  refine wpQuiet_nil ?_;rintro _ ⟨y2,rfl⟩;go_wp2;go_ret;exact⟨congrArg (fun z=>Zf (Zs z)) Z0.out,by rw[Ym.out,Zx];exact⟨_,rfl⟩⟩
 have n2:(op==2)=false:=by simpa using o2
 by_cases o3:op=3
 ·have Z0:=Zg (g3.out o3)
  subst o3;clear g0 g2 g3 g4 g6 q1 q2 q4;go_wp2_with (first|(go_at_call 144;with_reducible refine (q3.out _).mono ?_;rintro r w' ⟨rfl,x,rfl⟩));go_ret;exact⟨congrArg (fun z=>Zf (Zs z)) Z0.out,by rw[Ym.out,Zx];exact⟨_,rfl⟩⟩
 have n3:(op==3)=false:=by simpa using o3
 by_cases o4:op=4
 ·have Z0:=Zg (g4.out o4)
  subst o4;clear g0 g2 g3 g4 g6 q1 q2 q3;go_wp2_with (first|(go_at_call 116;with_reducible refine (q4.out _).mono ?_;rintro r w' ⟨rfl,x,rfl⟩));go_ret;exact⟨congrArg (fun z=>Zf (Zs z)) Z0.out,by rw[Ym.out,Zx];exact⟨_,rfl⟩⟩
 have n4:(op==4)=false:=by simpa using o4
 by_cases o6:op=6
 ·have Z0:=Zg (g6.out o6)
  subst o6;clear g0 g2 g3 g4 g6 q2 q3 q4;go_wp2_with (first|(go_at_call 146;with_reducible refine (q1.out _).mono ?_;rintro r w' ⟨rfl,x,rfl⟩));go_ret;exact⟨congrArg (fun z=>Zf (Zs z)) Z0.out,by rw[Ym.out,Zx];exact⟨_,rfl⟩⟩
 have n6:(op==6)=false:=by simpa using o6
 have Z0:=Zg (g0.out o2 o3 o4 o6);clear g0 g2 g3 g4 g6 q1 q2 q3 q4 o2 o3 o4 o6;go_wp2;go_ret;exact⟨congrArg (fun z=>Zf (Zs z)) Z0.out,by rw[Ym.out,Zx];exact⟨_,rfl⟩⟩
mutual
/-- .. and of all in it? -/
def Ex.there(f:Ex→Bool):Ex→Bool
 | .mk op lit hd nm hi lo p c l=>f (.mk op lit hd nm hi lo p c l)&&Ex.theres f l
def Ex.theres(f:Ex→Bool):List Ex→Bool
 | []=>true
 | x :: l=>x.there f&&Ex.theres f l
end
theorem Ex.theres_all(f:Ex→Bool):∀l:List Ex,Ex.theres f l=l.all (Ex.there f)
 | []=>by simp[Ex.theres]
 | x :: l=>by simp[Ex.theres,Ex.theres_all f l]
theorem Ex.there_eq(f:Ex→Bool)(e:Ex):e.there f=(f e&&e.args.all (Ex.there f)):=by
 cases e;simp[Ex.there,Ex.theres_all,Ex.args]
theorem Pj{α:Type}(q:α→Bool):∀(l:List α) (k:Nat),(Y1 (fun x=>!q x) l k==-1)=l.all q
 | [],_=>by simp[Y1]
 | x :: l,k=>by
  unfold Y1;cases h:q x with
  | true=>simp only[Bool.not_true,Bool.false_eq_true,if_false,List.all_cons,h,Ze];exact Pj q l (k+1)
  | false =>
   simp only[Bool.not_false,if_true,List.all_cons,h,Bool.false_and];rw[beq_eq_false_iff_ne];omega
theorem Ik(bt:Nat)(fv:Value)(g:FuncId)(caps:Array Value)(hfv:fv=.func (.func g) #[] caps)(Wb:∀args w,(callFunc g args).run Zr w=.ok (.enter g args) w)(e:Ex)(b)(w:World)(hc:w.cell? ⟨bt,0,none⟩=some fv)(hX:Kp Zr w g (#[.agg #[.int .u8 e.op,.int .i64 e.lit.w,.int .u64 e.lit.h,.int .u64 e.lit.l,.string e.head,.string e.name,.int .i64 e.hi,.int .i64 e.lo,.slice e.p e.args.length e.cap]]++caps) (.bool b)):Kp Zr w 155 #[.agg #[.int .u8 e.op,.int .i64 e.lit.w,.int .u64 e.lit.h,.int .u64 e.lit.l,.string e.head,.string e.name,.int .i64 e.hi,.int .i64 e.lo,.slice e.p e.args.length e.cap],.pointer (some ⟨bt,0,none⟩)] (.bool (!b)):=by
 intro y0;have hX:=hX.up y0;have hc:=ZC hc y0;obtain⟨V,hV⟩:=Zv (plus w y0);rw[hV]at hX hc ⊢;clear hV;have X3:=fun o:Obj=>ZL hc o;have WY:=Zg hX;have Vb:=Zg hc;clear hX hc;obtain⟨op,⟨lw,lh,ll⟩,hd,nm,hi,lo,ep,ec,el⟩:=e;simp only[Ex.op,Ex.lit,Ex.head,Ex.name,Ex.hi,Ex.lo,Ex.p,Ex.cap,Ex.args]at *;subst hfv;go_enter func155,ntmps155;go_upto_region 1 with (fail)
 obtain⟨W,yy,hW,⟨z,hz⟩,ca⟩:=Ya V _ 65;rw[hW];have c0:=ca 0 _ rfl;have c1:=ca 1 _ rfl;have c2:=ca 2 _ rfl;have c3:=ca 3 _ rfl;have c4:=ca 4 _ rfl;have c5:=ca 5 _ rfl;have c6:=ca 6 _ rfl;have c7:=ca 7 _ rfl;have c8:=ca 8 _ rfl;have hc3:∀y,(plus W y).cell? ⟨bt,0,none⟩=some (.func (.func g) #[] caps):=fun y=>ZC (by rw[hz];exact ZC Vb.out z) y;have q1:=Zg (Zy hz WY.out);have Ym:=Zg hz;clear hW hz ca WY Vb X3;go_wp2_with (first|(refine (q1.out _).mono ?_;rintro r w' ⟨rfl,x,rfl⟩));go_ret;exact⟨rfl,by rw[Ym.out,Zx];exact⟨_,rfl⟩⟩
def XQ(s:ByteArray)(k:Nat):Nat:=match s.data[k]? with|some b=>b.toNat|none=>256
theorem QV{s:ByteArray}{k:Nat}(h:k<s.size):XQ s k=(s[k]).toNat:=by
 have h':k<s.data.size:=h;unfold XQ;rw[Array.getElem?_eq_getElem h'];rfl
def Up(c:Nat):Bool:=decide ((97≤c∧c≤122)∨(65≤c∧c≤90)∨c=95)
def WO(c:Nat):Bool:=decide (48≤c∧c≤57)
def LJ:Array ByteArray:=#[⟨#[104,101,97,100,101,114]⟩,⟨#[109,101,116,97,100,97,116,97]⟩,⟨#[98,105,116]⟩,⟨#[112,97,114,115,101,114]⟩,⟨#[115,116,97,116,101]⟩,⟨#[101,120,116,114,97,99,116]⟩,⟨#[116,114,97,110,115,105,116,105,111,110]⟩,⟨#[115,101,108,101,99,116]⟩,⟨#[97,99,99,101,112,116]⟩,⟨#[114,101,106,101,99,116]⟩,⟨#[100,101,102,97,117,108,116]⟩,⟨#[97,99,116,105,111,110]⟩,⟨#[116,97,98,108,101]⟩,⟨#[107,101,121]⟩,⟨#[97,99,116,105,111,110,115]⟩,⟨#[101,120,97,99,116]⟩,⟨#[108,112,109]⟩,⟨#[116,101,114,110,97,114,121]⟩,⟨#[99,111,110,116,114,111,108]⟩,⟨#[97,112,112,108,121]⟩,⟨#[105,102]⟩,⟨#[101,108,115,101]⟩,⟨#[100,114,111,112]⟩,⟨#[102,111,114,119,97,114,100]⟩,⟨#[118,97,108,105,100]⟩,⟨#[105,110,118,97,108,105,100]⟩,⟨#[100,101,112,97,114,115,101,114]⟩,⟨#[101,109,105,116]⟩,⟨#[109,101,116,97]⟩,⟨#[112,111,114,116]⟩,⟨#[105,115,86,97,108,105,100]⟩,⟨#[95]⟩]
def Rd(k:Nat):ByteArray:=LJ.getD k ByteArray.empty
def Vs(s:ByteArray):Bool:=(List.range 32).any fun k=>decide (Rd k=s)
theorem LI{s:ByteArray}{k:Nat}(h:k<32)(e:Rd k=s):Vs s=true:=by
 unfold Vs;rw[List.any_eq_true];exact⟨k,List.mem_range.2 h,decide_eq_true e⟩
theorem OZ(a b:ByteArray):(a.toList==b.toList)=decide (a=b):=by
 rw[Bool.eq_iff_iff,beq_iff_eq,decide_eq_true_eq,Lib.toList_data,Lib.toList_data];exact⟨fun h=>ByteArray.ext (Array.toList_inj.1 h),fun h=>by rw[h]⟩
def TB(s:ByteArray):Bool:=(List.range s.size).all fun k=>Up (XQ s k)||WO (XQ s k)
theorem FX{s:ByteArray}(h:∀k,k<s.size→(Up (XQ s k)||WO (XQ s k))=true):TB s=true:=by
 unfold TB;rw[List.all_eq_true];exact fun k hk=>h k (List.mem_range.1 hk)
def UR(s:ByteArray):Bool:=decide (1≤s.size∧s.size≤16)&&!WO (XQ s 0)&&!Vs s&&TB s
def XI(s:ByteArray)(k:Nat):Nat:=if _h:k<s.size then (if (Up (XQ s k)||WO (XQ s k))=true then XI s (k+1) else k) else k
termination_by s.size-k
theorem Nl{s:ByteArray}{k:Nat}(h:k<s.size)(hb:(Up (XQ s k)||WO (XQ s k))=true):XI s k=XI s (k+1):=by rw[XI,dif_pos h,if_pos hb]
theorem Nm{s:ByteArray}{k:Nat}(h:k<s.size)(hb:(Up (XQ s k)||WO (XQ s k))=false):XI s k=k:=by rw[XI,dif_pos h,if_neg (by rw[hb];simp)]
theorem Qx{s:ByteArray}{k:Nat}(h:¬k<s.size):XI s k=k:=by rw[XI,dif_neg h]
theorem Nk(s:ByteArray):∀(d k:Nat),s.size-k=d→k≤s.size→k≤XI s k∧XI s k≤s.size
 | 0,k,h,hk=>by rw[Qx (by omega)];omega
 | d+1,k,h,hk=>by
  cases hb:(Up (XQ s k)||WO (XQ s k)) with
  | true=>rw[Nl (by omega) hb];have:=Nk s d (k+1) (by omega) (by omega);omega
  | false=>rw[Nm (by omega) hb];omega
abbrev rest(s:ByteArray)(k:Nat):ByteArray:=s.extract k s.size
theorem MD(s:ByteArray):s.data.toList.length=s.size:=by rw[Array.length_toList];rfl
theorem HC(s:ByteArray):rest s 0=s:=by apply ByteArray.ext;simp[rest]
theorem Qv(c:Nat)(w:World)(h:c<256):Calls Zr 171 #[.int .u8 (c:Int)] w fun e w'=>e=.returned (.bool (WO c))∧w=w':=by
 obtain⟨b,hb⟩:=Zv (WO c);have YI:=Zg hb;rw[hb];clear hb;go_enter func171,ntmps171;go_wp2;all_goals
  go_ret;refine⟨?_,rfl⟩;show Zf (.bool _)=Zf (.bool _)
  refine congrArg (fun x=>Zf (.bool x)) ?_;rw[←YI.out];unfold WO;rw[Bool.eq_iff_iff];simp;omega
def V8(c:Nat):Bool:=Up c||WO c
theorem Fw(c:Nat)(w:World)(h:c<256):Calls Zr 174 #[.int .u8 (c:Int)] w fun e w'=>e=.returned (.bool (V8 c))∧w=w':=by
 obtain⟨b,hb⟩:=Zv (V8 c);have YI:=Zg hb;rw[hb];clear hb;cases hd:WO c with
 | true =>
  have hd':=Zg hd;have hD:=Zg (fun w=>Qv c w h);rw[hd]at hD;clear hd;go_enter func174,ntmps174;go_wp2_with (go_at_call 171;refine (hD.out _).mono ?_;rintro e w' ⟨rfl,rfl⟩);all_goals
   go_ret;refine⟨?_,rfl⟩;show Zf (.bool _)=Zf (.bool _)
   refine congrArg (fun x=>Zf (.bool x)) ?_;rw[←YI.out];have hx:=hd'.out;unfold V8 Up;unfold WO at hx ⊢;rw[Bool.eq_iff_iff];simp at hx ⊢;omega
 | false =>
  have hd':=Zg hd;have hD:=Zg (fun w=>Qv c w h);rw[hd]at hD;clear hd;go_enter func174,ntmps174;go_wp2_with (go_at_call 171;refine (hD.out _).mono ?_;rintro e w' ⟨rfl,rfl⟩);all_goals
   go_ret;refine⟨?_,rfl⟩;show Zf (.bool _)=Zf (.bool _)
   refine congrArg (fun x=>Zf (.bool x)) ?_;rw[←YI.out];have hx:=hd'.out;unfold V8 Up;unfold WO at hx ⊢;rw[Bool.eq_iff_iff];simp at hx ⊢;omega
theorem QC{s:ByteArray}{k:Nat}(h:k<s.size)(hb:V8 (XQ s k)=true):XI s k=XI s (k+1):=Nl h hb
theorem Nw{s:ByteArray}{k:Nat}(h:k<s.size)(hb:V8 (XQ s k)=false):XI s k=k:=Nm h hb
theorem Ft(s:ByteArray)(hs:s.size≤140737488355328)(w:World):Calls Zr 172 #[.string s] w fun e w'=>e=.returned (.string (s.extract 0 (XI s 0)))∧w=w':=by
 obtain⟨R,hR⟩:=Zv (XI s 0);rw[hR];have Yi:=Zg hR;clear hR;go_enter func172,ntmps172;go_wp2;go_loopw [3] (fun iv wr=>∃k:Nat,k≤s.size∧iv=.int .i64 (k:Int)∧wr=w∧XI s k=R) (fun iv _=>s.size-(intOf iv).toNat)
 case atStart=>exact⟨0,Zq _,rfl,rfl,Yi.out⟩
 case round =>
  obtain⟨k,hk,rfl,rfl,hkR⟩:=hrel;have hkR':=Zg hkR;clear hkR;by_cases Zz:k<s.size
  ·have e2:XQ s k=(s[k]).toNat:=QV Zz
   have d256:=(s[k]).toNat_lt;generalize hdd:(s[k]).toNat=d at e2 d256;have hG2:=Zg (fun w=>Fw d w d256);cases g1:V8 d with
   | true =>
    have hgo:=Zg (QC Zz (by rw[e2,g1]));rw[g1]at hG2;clear g1 e2;go_wp2_with (go_at_call 174;refine (hG2.out _).mono ?_;rintro e w' ⟨rfl,rfl⟩);go_roundw
    case rel=>exact⟨k+1,by omega,by go_num,by trivial,by rw[←hgo.out];exact hkR'.out⟩
    case measure=>simp[intOf];omega
   | false =>
    have Ve:=Zg (Nw Zz (by rw[e2,g1]));rw[g1]at hG2;clear g1 e2;go_wp2_with (go_at_call 174;refine (hG2.out _).mono ?_;rintro e w' ⟨rfl,rfl⟩);go_wp2;go_ret;exact⟨by rw[←hkR'.out,Ve.out];rfl,rfl⟩
  ·have Ve:=Zg (Qx Zz)
   go_wp2;go_ret;exact⟨by rw[←hkR'.out,Ve.out];rfl,rfl⟩
theorem PE(s:ByteArray)(l:List UInt8):(s.toList==l)=decide (s.data.toList=l):=by
 rw[Bool.eq_iff_iff,beq_iff_eq,decide_eq_true_eq,Lib.toList_data]
theorem YW{s:ByteArray}{l:List UInt8}(h1:(s.toList==l)=true)(h2:(s.toList==l)=false):False:=by rw[h1]at h2;cases h2
theorem LH{s:ByteArray}{l:List UInt8}(h:(s.toList==l)=true)(hm:((List.range 32).any fun k=>decide ((Rd k).data.toList=l))=true):Vs s=true:=by
 rw[List.any_eq_true]at hm;obtain⟨k,hk,e⟩:=hm;rw[PE,decide_eq_true_eq]at h;rw[decide_eq_true_eq]at e;refine LI (List.mem_range.1 hk) ?_;apply ByteArray.ext;rw[←Array.toList_inj,e,h]
theorem LG{s:ByteArray}(h:Vs s=true):∃k,k<32∧(s.toList==(Rd k).data.toList)=true:=by
 unfold Vs at h;rw[List.any_eq_true]at h;obtain⟨k,hk,e⟩:=h;rw[decide_eq_true_eq]at e;exact⟨k,List.mem_range.1 hk,by rw[e,PE,decide_eq_true rfl]⟩
theorem Fu(s):Xp Zr 173 #[.string s] (.bool (Vs s)):=by
 intro w;obtain⟨b,hb⟩:=Zv (Vs s);have YI:=Zg hb;rw[hb];clear hb;go_enter func173,ntmps173;go_wp2;all_goals first
  | (exfalso;exact YW (s:=s) (by assumption) (by assumption))
  | (go_ret
     refine⟨?_,⟨#[],w.drawn⟩,(ZK w).symm⟩;have hk:Vs s=true:=LH (s:=s) (by assumption) (by decide +kernel);rw[←YI.out,hk];rfl)
  | (go_ret
     refine⟨?_,⟨#[],w.drawn⟩,(ZK w).symm⟩;have hk:Vs s=false:=by
       cases he:Vs s with
       | false=>rfl
       | true =>
         exfalso;obtain⟨k,hk,e⟩:=LG he;match k,hk,e with
         | 0,_,e=>exact YW e (by assumption)
         | 1,_,e=>exact YW e (by assumption)
         | 2,_,e=>exact YW e (by assumption)
         | 3,_,e=>exact YW e (by assumption)
         | 4,_,e=>exact YW e (by assumption)
         | 5,_,e=>exact YW e (by assumption)
         | 6,_,e=>exact YW e (by assumption)
         | 7,_,e=>exact YW e (by assumption)
         | 8,_,e=>exact YW e (by assumption)
         | 9,_,e=>exact YW e (by assumption)
         | 10,_,e=>exact YW e (by assumption)
         | 11,_,e=>exact YW e (by assumption)
         | 12,_,e=>exact YW e (by assumption)
         | 13,_,e=>exact YW e (by assumption)
         | 14,_,e=>exact YW e (by assumption)
         | 15,_,e=>exact YW e (by assumption)
         | 16,_,e=>exact YW e (by assumption)
         | 17,_,e=>exact YW e (by assumption)
         | 18,_,e=>exact YW e (by assumption)
         | 19,_,e=>exact YW e (by assumption)
         | 20,_,e=>exact YW e (by assumption)
         | 21,_,e=>exact YW e (by assumption)
         | 22,_,e=>exact YW e (by assumption)
         | 23,_,e=>exact YW e (by assumption)
         | 24,_,e=>exact YW e (by assumption)
         | 25,_,e=>exact YW e (by assumption)
         | 26,_,e=>exact YW e (by assumption)
         | 27,_,e=>exact YW e (by assumption)
         | 28,_,e=>exact YW e (by assumption)
         | 29,_,e=>exact YW e (by assumption)
         | 30,_,e=>exact YW e (by assumption)
         | 31,_,e=>exact YW e (by assumption)
         | n+32,hn,_=>omega
     rw[←YI.out,hk];rfl)
theorem FP(s:ByteArray):(s.extract 0 (XI s 0)=s)↔TB s=true:=by
 have hb:=Nk s _ 0 rfl (Zq _);have hz:(s.extract 0 (XI s 0)).size=XI s 0:=by rw[ByteArray.size_extract];omega
 have hgo:∀(d k:Nat),s.size-k=d→k≤s.size→XI s k=s.size→∀j,k≤j→j<s.size→V8 (XQ s j)=true:=by
  intro d;induction d with
  | zero=>intro k h _ _ j h1 h2;omega
  | succ d ih =>
   intro k h hk he j h1 h2;cases hw:V8 (XQ s k) with
   | false=>rw[Nw (by omega) hw]at he;omega
   | true =>
    by_cases hj:j=k
    ·rw[hj];exact hw
    ·rw[QC (by omega) hw]at he
     exact ih (k+1) (by omega) (by omega) he j (by omega) h2
 have hback:∀(d k:Nat),s.size-k=d→k≤s.size→(∀j,k≤j→j<s.size→V8 (XQ s j)=true)→XI s k=s.size:=by
  intro d;induction d with
  | zero=>intro k h hk _;rw[Qx (by omega)];omega
  | succ d ih =>
   intro k h hk VG;rw[QC (by omega) (VG k (Zp _) (by omega))];exact ih (k+1) (by omega) (by omega) (fun j h1 h2=>VG j (by omega) h2)
 constructor
 ·intro h
  have he:XI s 0=s.size:=by rw[←hz,h]
  exact FX fun k hk=>hgo _ 0 rfl (Zq _) he k (Zq _) hk
 ·intro h
  unfold TB at h;rw[List.all_eq_true]at h;have he:XI s 0=s.size:=hback _ 0 rfl (Zq _) fun j _ hj=>h j (List.mem_range.2 hj);rw[he];exact HC s
theorem Fv(s:ByteArray)(hs:s.size≤140737488355328):Xp Zr 167 #[.string s] (.bool (UR s)):=by
 intro w;obtain⟨b,hb⟩:=Zv (UR s);have YI:=Zg hb;rw[hb];clear hb;have hS:∃x,w=plus w x:=⟨⟨#[],w.drawn⟩,(ZK w).symm⟩;have WE:=Zg hS;clear hS;by_cases h0:s.size=0
 ·have he:s=⟨#[]⟩:=ByteArray.ext (Array.eq_empty_of_size_eq_zero h0)
  have hv:b=false:=by rw[←YI.out];unfold UR;rw[decide_eq_false (by omega)];simp
  subst he hv;clear YI h0;go_enter func167,ntmps167;go_wp2;go_ret;exact⟨rfl,WE.out⟩
 ·have q:s.toList.isEmpty=false:=by
   rw[Lib.toList_data];cases h:s.data.toList with
   | nil=>have:=MD s;rw[h,List.length_nil]at this;omega
   | cons _ _=>rfl
  have q2:¬s.toList=[]:=by intro h;rw[h]at q;cases q
  by_cases h16:s.size≤16
  ·have Zz:0<s.size:=by omega
   have e0:XQ s 0=(s[0]).toNat:=QV Zz;have d256:=(s[0]).toNat_lt;generalize hdd:(s[0]).toNat=d at e0 d256;have hG:=Zg (fun w=>Qv d w d256);have hF:=Ft s hs;have hK:=Fu s;have Ti:=FP s;have hn:UR s=(!WO d&&!Vs s&&TB s):=by unfold UR;rw[e0,decide_eq_true ⟨Zz,h16⟩];simp
   rw[←YI.out,hn];clear hn e0 YI;generalize s.extract 0 (XI s 0)=f at hF Ti;generalize Vs s=kb at hK ⊢;generalize TB s=wb at Ti ⊢;have hF':=Zg hF;have hK':=Zg hK;clear hF hK;cases hd:WO d with
   | true =>
    rw[hd]at hG;clear hd Ti;go_enter func167,ntmps167;go_wp2_with (go_at_call 171;refine (hG.out _).mono ?_;rintro r w' ⟨rfl,rfl⟩);go_ret;exact⟨by cases kb <;> cases wb <;> rfl,WE.out⟩
   | false =>
    rw[hd]at hG;clear hd;by_cases hfe:f=s
    ·obtain rfl:wb=true:=Ti.1 hfe
     have q3:(f.toList==s.toList)=true:=by rw[OZ,decide_eq_true hfe]
     clear Ti hfe;go_enter func167,ntmps167;go_wp2_with (first|(go_at_call 171;refine (hG.out _).mono ?_;rintro r w' ⟨rfl,rfl⟩)|(go_at_call 172;refine (hF'.out _).mono ?_;rintro r w' ⟨rfl,rfl⟩)|(go_at_call 173;refine (hK'.out _).mono ?_;rintro r w' ⟨rfl,x,rfl⟩));go_ret;exact⟨by cases kb <;> rfl,x,rfl⟩
    ·obtain rfl:wb=false:=by
      cases wb with
      | false=>rfl
      | true=>exact absurd (Ti.2 rfl) hfe
     have q3:(f.toList==s.toList)=false:=by rw[OZ,decide_eq_false hfe]
     clear Ti hfe;go_enter func167,ntmps167;go_wp2_with (first|(go_at_call 171;refine (hG.out _).mono ?_;rintro r w' ⟨rfl,rfl⟩)|(go_at_call 172;refine (hF'.out _).mono ?_;rintro r w' ⟨rfl,rfl⟩));go_ret;exact⟨by cases kb <;> rfl,WE.out⟩
  ·have h17:(16:Int)<s.size:=by omega
   have hv:b=false:=by rw[←YI.out];unfold UR;rw[decide_eq_false (by omega)];simp
   subst hv;clear YI;go_enter func167,ntmps167;go_wp2;go_ret;exact⟨rfl,WE.out⟩
end Go.Proofs.YtheaknidbcbneaaGreat
