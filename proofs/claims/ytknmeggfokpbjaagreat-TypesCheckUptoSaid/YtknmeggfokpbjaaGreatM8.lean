/-
  WHAT IS PROVED HERE: a part of the proof (made narrower and merged by program; the parts: Fd Fe He HF Hi).
-/
import Derived.Deep.RegionWith
import Derived.Test.YtknmeggfokpbjaaGreatM3
import Derived.Test.YtknmeggfokpbjaaGreatM6
import Derived.Test.YtknmeggfokpbjaaGreatM7
import Derived.Test.YtknmeggfokpbjaaGreatM4
set_option maxRecDepth 100000
set_option maxHeartbeats 8000000
set_option linter.all false
namespace Go.Proofs.YtknmeggfokpbjaaGreat
open Z
open Go.RowKit Go.Proofs.Tryz
open Ending renaming returned→Zd
open Lib renaming hid→Zf
open List renaming map_cons→Zm,mem_of_getElem?→Zo
open Nat renaming le_refl→Zt,zero_le→Zw
open Go.Proofs.Tryz renaming prog→Zx
open Value renaming bool→Zy,int→Zz
open Go.RowKit
theorem CT{α:Type}(cells:α→List Value)(hC:∀x,J3 (cells x))(may:α→Bool)(g:FuncId)(first caps:Array Value)(K:α→Prop)(w:World)(A:Sl α)(lo hi)(hA:A.In w 9 cells K)(hl:A.l.length≤1048576)(Xb:∀args w,(callFunc g args).run Zx w=.ok (.enter g args) w)(hf:∀x∈A.l,Kp Zx w g (first.push (.agg (cells x).toArray)++caps) (.bool (may x))) :
  Kp Zx w 188 #[A.v,.int .i64 lo,.int .i64 hi,.func (.func g) first caps] (.bool (Xe lo hi may A.l)):=by
 open Z renaming aoG→Uz in exact UH
theorem mT{α:Type}(cells:α→List Value)(hC:∀x,LL (cells x))(may:α→Bool)(g:FuncId)(first caps:Array Value)(K:α→Prop)(w:World)(A:Sl α)(lo hi)(hA:A.In w 2 cells K)(hl:A.l.length≤1048576)(Xb:∀args w,(callFunc g args).run Zx w=.ok (.enter g args) w)(hf:∀x∈A.l,Kp Zx w g (first.push (.agg (cells x).toArray)++caps) (.bool (may x))) :
  Kp Zx w 53 #[A.v,.int .i64 lo,.int .i64 hi,.func (.func g) first caps] (.bool (Xe lo hi may A.l)):=by
 open Z renaming aoH→Uz in exact UH
theorem mX{α:Type}(cells:α→List Value)(hC:∀x,LM (cells x))(may:α→Bool)(g:FuncId)(first caps:Array Value)(K:α→Prop)(w:World)(A:Sl α)(lo hi)(hA:A.In w 5 cells K)(hl:A.l.length≤1048576)(Xb:∀args w,(callFunc g args).run Zx w=.ok (.enter g args) w)(hf:∀x∈A.l,Kp Zx w g (first.push (.agg (cells x).toArray)++caps) (.bool (may x))) :
  Kp Zx w 57 #[A.v,.int .i64 lo,.int .i64 hi,.func (.func g) first caps] (.bool (Xe lo hi may A.l)):=by
 open Z renaming aoI→Uz in exact UH
theorem mQ{α:Type}(cells:α→List Value)(hC:∀x,LJ (cells x))(may:α→Bool)(g:FuncId)(first caps:Array Value)(K:α→Prop)(w:World)(A:Sl α)(lo hi)(hA:A.In w 3 cells K)(hl:A.l.length≤1048576)(Xb:∀args w,(callFunc g args).run Zx w=.ok (.enter g args) w)(hf:∀x∈A.l,Kp Zx w g (first.push (.agg (cells x).toArray)++caps) (.bool (may x))) :
  Kp Zx w 59 #[A.v,.int .i64 lo,.int .i64 hi,.func (.func g) first caps] (.bool (Xe lo hi may A.l)):=by
 open Z renaming aoJ→Uz in exact UH
theorem mZ{α:Type}(cells:α→List Value)(hC:∀x,LN (cells x))(may:α→Bool)(g:FuncId)(first caps:Array Value)(K:α→Prop)(w:World)(A:Sl α)(lo hi)(hA:A.In w 5 cells K)(hl:A.l.length≤1048576)(Xb:∀args w,(callFunc g args).run Zx w=.ok (.enter g args) w)(hf:∀x∈A.l,Kp Zx w g (first.push (.agg (cells x).toArray)++caps) (.bool (may x))) :
  Kp Zx w 61 #[A.v,.int .i64 lo,.int .i64 hi,.func (.func g) first caps] (.bool (Xe lo hi may A.l)):=by
 open Z renaming aoK→Uz in exact UH
theorem mU{α:Type}(cells:α→List Value)(hC:∀x,xg (cells x))(may:α→Bool)(g:FuncId)(first caps:Array Value)(K:α→Prop)(w:World)(A:Sl α)(lo hi)(hA:A.In w 10 cells K)(hl:A.l.length≤1048576)(Xb:∀args w,(callFunc g args).run Zx w=.ok (.enter g args) w)(hf:∀x∈A.l,Kp Zx w g (first.push (.agg (cells x).toArray)++caps) (.bool (may x))) :
  Kp Zx w 133 #[A.v,.int .i64 lo,.int .i64 hi,.func (.func g) first caps] (.bool (Xe lo hi may A.l)):=by
 open Z renaming aoL→Uz in exact UH
theorem mV{α:Type}(cells:α→List Value)(hC:∀x,xh (cells x))(may:α→Bool)(g:FuncId)(first caps:Array Value)(K:α→Prop)(w:World)(A:Sl α)(lo hi)(hA:A.In w 3 cells K)(hl:A.l.length≤1048576)(Xb:∀args w,(callFunc g args).run Zx w=.ok (.enter g args) w)(hf:∀x∈A.l,Kp Zx w g (first.push (.agg (cells x).toArray)++caps) (.bool (may x))) :
  Kp Zx w 135 #[A.v,.int .i64 lo,.int .i64 hi,.func (.func g) first caps] (.bool (Xe lo hi may A.l)):=by
 open Z renaming aoM→Uz in exact UH
theorem mY{α:Type}(cells:α→List Value)(hC:∀x,J4 (cells x))(may:α→Bool)(g:FuncId)(first caps:Array Value)(K:α→Prop)(w:World)(A:Sl α)(lo hi)(hA:A.In w 14 cells K)(hl:A.l.length≤1048576)(Xb:∀args w,(callFunc g args).run Zx w=.ok (.enter g args) w)(hf:∀x∈A.l,Kp Zx w g (first.push (.agg (cells x).toArray)++caps) (.bool (may x))) :
  Kp Zx w 138 #[A.v,.int .i64 lo,.int .i64 hi,.func (.func g) first caps] (.bool (Xe lo hi may A.l)):=by
 open Z renaming aoN→Uz in exact UH
theorem mR{α:Type}(cells:α→List Value)(hC:∀x,xf (cells x))(may:α→Bool)(g:FuncId)(first caps:Array Value)(K:α→Prop)(w:World)(A:Sl α)(lo hi)(hA:A.In w 3 cells K)(hl:A.l.length≤1048576)(Xb:∀args w,(callFunc g args).run Zx w=.ok (.enter g args) w)(hf:∀x∈A.l,Kp Zx w g (first.push (.agg (cells x).toArray)++caps) (.bool (may x))) :
  Kp Zx w 191 #[A.v,.int .i64 lo,.int .i64 hi,.func (.func g) first caps] (.bool (Xe lo hi may A.l)):=by
 open Z renaming aoO→Uz in exact UH
theorem mW{α:Type}(cells:α→List Value)(hC:∀x,xi (cells x))(may:α→Bool)(g:FuncId)(first caps:Array Value)(K:α→Prop)(w:World)(A:Sl α)(lo hi)(hA:A.In w 7 cells K)(hl:A.l.length≤1048576)(Xb:∀args w,(callFunc g args).run Zx w=.ok (.enter g args) w)(hf:∀x∈A.l,Kp Zx w g (first.push (.agg (cells x).toArray)++caps) (.bool (may x))) :
  Kp Zx w 214 #[A.v,.int .i64 lo,.int .i64 hi,.func (.func g) first caps] (.bool (Xe lo hi may A.l)):=by
 open Z renaming aoP→Uz in exact UH
theorem Kp.all{P:Program}{w:World}{f:FuncId}{args:Array Value}{v:Value}(h:WR P f args v):Kp P w f args v:=fun _=>h _
def Lt.n(t:Lt):Nat:=t.h.toNat*18446744073709551616+t.l.toNat
theorem Ii{h:Int}(k:(Lit.int .u64 h).wf=true):0≤h∧h<18446744073709551616:=by
 simp[Lit.wf,IntKind.min,IntKind.max,IntKind.signed,IntKind.bits]at k;omega
theorem Lt.nv_eq{t:Lt}(h:t.Ok):Value.agg #[.int .u64 t.h,.int .u64 t.l]=nv t.n:=by
 have h1:=Ii h.h;have h2:=Ii h.l;have e1:hi t.n=t.h:=by unfold hi Lt.n;omega
 have e2:lo t.n=t.l:=by unfold lo Lt.n;omega
 unfold nv;rw[e1,e2]
theorem Lt.n_lt{t:Lt}(h:t.Ok):t.n<Wb:=by
 have h1:=Ii h.h;have h2:=Ii h.l;unfold Lt.n Wb;omega
def UX(t:Lt):Bool:=(t.w==0)||(PF t.w&&decide (t.n % 2 ^ hw t.w=t.n))
def SO(is:Bool)(t:Lt):Bool:=if is then UX t else ((t.w==0)&&((t.h==0)&&(t.l==0)))
def Uh(s:ByteArray)(p:Int):Bool:=if s.toList==[] then p !=1 else ((p !=0)&&YK s)
def Sw(a b:Int)(is:Bool):Bool:=if is then (decide (0≤b)&&(decide (b≤a)&&decide (a<128))) else ((a==0)&&(b==0))
def MT(e:Ex):Bool:=(e.op==1)&&((e.lit.w==0)&&decide (Tc e.lit.n 127≤0))
def Mn(s:ByteArray):Bool:=(s.toList==[97,99,99,101,112,116])||((s.toList==[114,101,106,101,99,116])||YK s)
def QL:List Ex→Bool
 | [_,b]=>MT b
 | _=>false
def Ex.fits(e:Ex):Bool:=SO (VU e.op) e.lit&&(Uh e.head (V3 e.op)&&(Uh e.name (V4 e.op)&&(Sw e.hi e.lo (Vs e.op)&&(((e.args.length:Int)==WD e.op)&&(!(TY e.op)||QL e.args)))))
def Ex.may:Nat→Ex→Bool
 | 0,_=>false
 | n+1,e=>VT e.op&&(e.fits&&Xe (WD e.op) (WD e.op) (Ex.may n) e.args)
def VO(f:Fd):Bool:=YK f.name&&PF f.w
def Si(h:Hr):Bool:=YK h.name&&Xe 1 16 VO h.fields.l
theorem Q0(s:ByteArray)(w)(hs:s.size≤1048576):Kp Zx w 65 #[.string s] (.bool (YK s)):=Kp.all (aao s asB)
theorem zO(t:Lt)(w)(h:t.Ok):Kp Zx w 136 #[.agg t.cells.toArray] (.bool (UX t)) :=
 ir t.w t.h t.l _ _ w (Co t.w w) (Kp.all (by rw[Lt.nv_eq h];exact Fv t.n t.w (Lt.n_lt h)))
theorem Fo(t:Lt)(is w)(h:t.Ok):Kp Zx w 210 #[.agg t.cells.toArray,.bool is] (.bool (SO is t)):=iw t.w t.h t.l is _ w (zO t w h)
theorem JE(s:ByteArray)(p w)(hs:s.size≤1048576):Kp Zx w 211 #[.string s,.int .u8 p] (.bool (Uh s p)):=iV s p _ w (Q0 s w hs)
theorem xA(s:ByteArray)(w)(hs:s.size≤1048576):Kp Zx w 190 #[.string s] (.bool (Mn s)):=aZ s _ w (Q0 s w hs)
theorem lL(f:Fd)(w)(h:f.sz≤1048576):Kp Zx w 56 #[.agg f.cells.toArray] (.bool (VO f)):=lM f.name f.w _ _ w (Q0 f.name w (by unfold Fd.sz at h;omega)) (Co f.w w)
theorem oT(e:Ex)(w:World)(h:e.In w):Kp Zx w 213 #[.agg e.cells.toArray] (.bool (MT e)):=by
 obtain⟨_,_,lit,_⟩:=h;exact oU e.op e.lit.w e.lit.h e.lit.l e.head e.name e.hi e.lo e.p e.args.length e.cap _ w (Kp.all (gA 127 asE)) (Kp.all (by rw[Lt.nv_eq lit];exact gw e.lit.n 127))
theorem lX(e:Ex)(w:World)(h:e.In w)(hz:e.wt≤1048576):Kp Zx w 187 #[PG e.op,.agg e.cells.toArray] (.bool e.fits):=by
 have h':=h;obtain⟨_,_,lit,_,_,hd,nm,len,cap,row,kids⟩:=h';have ZN:=Ex.wt_eq e;have Ym:=Fo e.lit (VU e.op) w lit;have ZL:=JE e.head (V3 e.op) w asB;have ZT:=JE e.name (V4 e.op) w asB;have Ys:Kp Zx w 212 #[.int .i64 e.hi,.int .i64 e.lo,.bool (Vs e.op)] (.bool (Sw e.hi e.lo (Vs e.op))):=bX e.hi e.lo (Vs e.op) w;unfold PG Ex.fits;cases hS:TY e.op with
 | false =>
  refine (lU _ _ _ _ _ e.op e.lit.w e.lit.h e.lit.l e.head e.name e.hi e.lo e.p e.args.length e.cap _ _ _ _ w Ym ZL ZT Ys).eqv ?_;simp
 | true =>
  have h2:WD e.op=2:=by
   unfold TY at hS;rw[Bool.or_eq_true,beq_iff_eq,beq_iff_eq]at hS;unfold WD;rw[if_neg asB,if_pos asB]
  rw[h2];by_cases hn:e.args.length=2
  ·obtain⟨a,b,hab⟩:∃a b,e.args=[a,b]:=by
    match e.args,hn with
    | [a,b],_=>exact⟨a,b,rfl⟩
   obtain⟨pa,hp,hc⟩:=row 1 b (by rw[hab];rfl);have hb:b.In w:=kids b (by rw[hab];simp);have YQ:=oT b w hb;have Qn:e.cells=[.int .u8 e.op,.int .i64 e.lit.w,.int .u64 e.lit.h,.int .u64 e.lit.l,.string e.head,.string e.name,.int .i64 e.hi,.int .i64 e.lo,.slice (some pa) 2 e.cap]:=by unfold Ex.cells;rw[hp,hn]
   rw[Qn];refine (lW _ _ _ _ e.op e.lit.w e.lit.h e.lit.l e.head e.name e.hi e.lo pa e.cap b.op b.lit.w b.lit.h b.lit.l b.head b.name b.hi b.lo b.p b.args.length b.cap _ _ _ _ _ w hc Ym ZL ZT Ys YQ).eqv ?_;rw[hab];simp[QL]
  ·refine (lV _ _ _ _ e.op e.lit.w e.lit.h e.lit.l e.head e.name e.hi e.lo e.p e.args.length e.cap _ _ _ _ w hn Ym ZL ZT Ys).eqv ?_
   have:((e.args.length:Int)==2)=false:=by
    first|(simp;done)|(simp;omega)
   rw[this];simp
def KM(fb c:Nat):Value:=.func (.func 186) #[] #[.pointer (some ⟨fb,0,none⟩),.pointer (some ⟨c,0,none⟩)]
theorem kV(a0 a1 a2 a3 a4 a5 a6 a7 a8p a8n a8c)(c rc fb:Nat)(k r:Int)(s0)(w:World)(hc:w.cell? ⟨c,0,none⟩=some (.func (.func 186) #[] #[.pointer (some ⟨fb,0,none⟩),.pointer (some ⟨c,0,none⟩)]))(hr:w.cell? ⟨rc,0,none⟩=some (.int .i64 k))(hk:wrap64 (k-1)=r)(h0:Kp Zx w 186 #[.agg #[.int .u8 a0,.int .i64 a1,.int .u64 a2,.int .u64 a3,.string a4,.string a5,.int .i64 a6,.int .i64 a7,.slice a8p a8n a8c],.int .i64 r,.pointer (some ⟨fb,0,none⟩),.pointer (some ⟨c,0,none⟩)] (.bool s0)) :
  Kp Zx w 189 #[.agg #[.int .u8 a0,.int .i64 a1,.int .u64 a2,.int .u64 a3,.string a4,.string a5,.int .i64 a6,.int .i64 a7,.slice a8p a8n a8c],.pointer (some ⟨c,0,none⟩),.pointer (some ⟨rc,0,none⟩)] (.bool (s0)):=by
 intro y0;have h0:=h0.up y0;have hc:=ZS hc y0;have hr:=ZS hr y0;obtain⟨V,hV⟩:=ZB (plus w y0);rw[hV]at h0 hc hr ⊢;clear hV;have hc2:=fun a=>YG hc a;have TB:=fun a=>YG hr a;obtain⟨R,hR⟩:=ZB (s0);rw[hR];have hF:=Zf (show (s0)=R by first|exact hR|(rw[←hR];simp));clear hR;have h0:=Zf h0;go_enter func189,ntmps189;exact ow
theorem Cn(V:World)(a b d:Obj):∃x,((V.alloc a).alloc b).alloc d=plus V x:=by
 obtain⟨x,hx⟩:=MR V a b;rw[hx];exact Qy V x d
theorem KB(V:World)(c d e:Array Value)(t u s:TypeId):∃W y,((V.alloc (.cells c t)).alloc (.cells d u)).alloc (.cells e s)=plus W y∧(∃z,W=plus V z)∧(∀o v,c[o]?=v→∀y,(plus W y).cell? ⟨V.heap.size,o,none⟩=v)∧(∀o v,d[o]?=v→∀y,(plus W y).cell? ⟨V.heap.size+1,o,none⟩=v)∧(∀o v,e[o]?=v→∀y,(plus W y).cell? ⟨V.heap.size+1+1,o,none⟩=v):=by
 obtain⟨W,hW,hB,hs,ca,cb,cc,_,_,_⟩:=Su V c d e t u s;exact⟨W,⟨#[],W.drawn⟩,by rw[Yk,hW],Yy hB,ca,cb,cc⟩
theorem iC(a0 a1 a2 a3 a4 a5 a6 a7 a8p a8n a8c fl fs fx is)(fh fn fa k:Int)(fb c m:Nat)(w:World)(hf:w.cell? ⟨fb,0,none⟩=some (.map (some m)))(hL:∀W z,W=plus w z→(Instr.lookup 113 (.map (some m)) (.int .u8 a0) true).run Zx W=.ok (.tuple #[.agg #[.bool fl,.bool fs,.int .u8 fh,.int .u8 fn,.int .i64 fa,.bool fx],.bool is]) W)(hk:¬0<k) :
  Kp Zx w 186 #[.agg #[.int .u8 a0,.int .i64 a1,.int .u64 a2,.int .u64 a3,.string a4,.string a5,.int .i64 a6,.int .i64 a7,.slice a8p a8n a8c],.int .i64 k,.pointer (some ⟨fb,0,none⟩),.pointer (some ⟨c,0,none⟩)] (.bool (false)):=by
 intro y0;open Z renaming aic→Aq in exact ug
theorem iE(a0 a1 a2 a3 a4 a5 a6 a7 a8p a8n a8c fl fs fx is)(fh fn fa k:Int)(fb c m:Nat)(s0 s1)(w:World)(hf:w.cell? ⟨fb,0,none⟩=some (.map (some m)))(hL:∀W z,W=plus w z→(Instr.lookup 113 (.map (some m)) (.int .u8 a0) true).run Zx W=.ok (.tuple #[.agg #[.bool fl,.bool fs,.int .u8 fh,.int .u8 fn,.int .i64 fa,.bool fx],.bool is]) W)(hk:0<k)(h0:Kp Zx w 187 #[.agg #[.bool fl,.bool fs,.int .u8 fh,.int .u8 fn,.int .i64 fa,.bool fx],.agg #[.int .u8 a0,.int .i64 a1,.int .u64 a2,.int .u64 a3,.string a4,.string a5,.int .i64 a6,.int .i64 a7,.slice a8p a8n a8c]] (.bool s0))(hE:∀W z rc,W=plus w z→W.cell? ⟨rc,0,none⟩=some (.int .i64 k)→Kp Zx W 188 #[.slice a8p a8n a8c,.int .i64 fa,.int .i64 fa,.func (.func 189) #[] #[.pointer (some ⟨c,0,none⟩),.pointer (some ⟨rc,0,none⟩)]] (.bool s1)) :
  Kp Zx w 186 #[.agg #[.int .u8 a0,.int .i64 a1,.int .u64 a2,.int .u64 a3,.string a4,.string a5,.int .i64 a6,.int .i64 a7,.slice a8p a8n a8c],.int .i64 k,.pointer (some ⟨fb,0,none⟩),.pointer (some ⟨c,0,none⟩)] (.bool (is&&(s0&&s1))):=by
 intro y0;have h0:=h0.up y0;have hE:∀W z rc,W=plus (plus w y0) z→W.cell? ⟨rc,0,none⟩=some (.int .i64 k)→Kp Zx W 188 #[.slice a8p a8n a8c,.int .i64 fa,.int .i64 fa,.func (.func 189) #[] #[.pointer (some ⟨c,0,none⟩),.pointer (some ⟨rc,0,none⟩)]] (.bool s1):=fun W z rc hW=>hE W _ rc (hW.trans (ZD _ _ _));open Z renaming aid→Aq in exact ug
theorem Bg(z:Value)(f:Int→Value)(i:Int):∀(n s:Nat),Ql z i ((List.range' s n).map fun (j:Nat)=>(⟨.int .u8 ((j:Int)+1),f ((j:Int)+1),j⟩:MapEntry))=if (s:Int)+1≤i∧i≤(s:Int)+n then (f i,true) else (z,false)
 | 0,s=>by rw[if_neg asB];rfl
 | n+1,s=>by
  rw[List.range'_succ,Zm,Ql];simp only;cases hi:(i==(s:Int)+1) with
  | true =>
   rw[beq_iff_eq]at hi;rw[if_pos rfl,if_pos asB,hi]
  | false =>
   have hi:¬i=(s:Int)+1:=by simpa using hi
   rw[if_neg asD,Bg z f i n (s+1)];by_cases h:(s:Int)+1≤i∧i≤(s:Int)+(n+1:Nat)
   ·rw[if_pos h,if_pos asB]
   ·rw[if_neg h,if_neg asB]
theorem Fe(f:Int→Value)(n:Nat):Ez (((List.range n).map fun (j:Nat)=>(⟨.int .u8 ((j:Int)+1),f ((j:Int)+1),j⟩:MapEntry)).toArray).toList:=by
 intro e he;simp only[List.mem_map]at he;obtain⟨j,_,rfl⟩:=he;exact⟨_,rfl⟩
theorem Gd(z:Value)(f:Int→Value)(i:Int)(n:Nat):Ql z i (((List.range n).map fun (j:Nat)=>(⟨.int .u8 ((j:Int)+1),f ((j:Int)+1),j⟩:MapEntry)).toArray).toList=if 1≤i∧i≤n then (f i,true) else (z,false):=by
 have:=Bg z f i n 0;rw[←List.range_eq_range']at this;simpa using this
theorem abF{op:Int}(h:¬(1≤op∧op≤26)):PG op=.agg #[.bool false,.bool false,.int .u8 0,.int .u8 0,.int .i64 0,.bool false]:=by
 have e1:VU op=false:=by unfold VU;simp;omega
 have e2:Vs op=false:=by unfold Vs;simp;omega
 have e3:V3 op=0:=by unfold V3;rw[if_neg (by omega)]
 have e4:V4 op=0:=by unfold V4;rw[if_neg (by omega)]
 have e5:WD op=0:=by unfold WD;rw[if_neg (by omega),if_neg (by omega)]
 have e6:TY op=false:=by unfold TY;simp;omega
 unfold PG;rw[e1,e2,e3,e4,e5,e6]
theorem bz{k:Int}(h:¬(1≤k∧k≤3)):Mg k=.agg #[.bool false,.bool false]:=by
 have e1:sV k=false:=by unfold sV;simp;omega
 have e2:sM k=false:=by unfold sM;simp;omega
 unfold Mg;rw[e1,e2]
theorem av{k:Int}(h:¬(1≤k∧k≤7)):Mi k=.agg #[.int .u8 0,.int .u8 0,.bool false,.bool false]:=by
 have e1:Rr k=0:=by unfold Rr;rw[if_neg (by omega),if_neg (by omega)]
 have e2:Rs k=0:=by unfold Rs;rw[if_neg (by omega)]
 have e3:TX k=false:=by unfold TX;simp;omega
 have e4:Rq k=false:=by unfold Rq;simp;omega
 unfold Mi;rw[e1,e2,e3,e4]
theorem zP(w:World)(m:Nat)(h:WQ w m (Sx 26))(op):(Instr.lookup 113 (.map (some m)) (.int .u8 op) true).run Zx w=.ok (.tuple #[PG op,.bool (VT op)]) w:=by
 have hz:(zeroValue 215).run Zx w=.ok (.agg #[.bool false,.bool false,.int .u8 0,.int .u8 0,.int .i64 0,.bool false]) w:=asC;have:=Fp Tryz.underlying113 Tryz.underlying5 hz h (Fe PG 26) op;rw[this];unfold Sx VT;rw[Gd];by_cases h1:1≤op∧op≤((26:Nat):Int)
 ·rw[if_pos h1,decide_eq_true asB]
 ·rw[if_neg h1,decide_eq_false asB,abF asB]
theorem iy(w:World)(m:Nat)(h:WQ w m (Nt 3))(k):(Instr.lookup 114 (.map (some m)) (.int .u8 k) true).run Zx w=.ok (.tuple #[Mg k,.bool (Q2 k)]) w:=by
 have hz:(zeroValue 219).run Zx w=.ok (.agg #[.bool false,.bool false]) w:=asC;have:=Fp Tryz.underlying114 Tryz.underlying5 hz h (Fe Mg 3) k;rw[this];unfold Nt Q2;rw[Gd];by_cases h1:1≤k∧k≤((3:Nat):Int)
 ·rw[if_pos h1,decide_eq_true asB]
 ·rw[if_neg h1,decide_eq_false asB,bz asB]
theorem iz(w:World)(m:Nat)(h:WQ w m (Nu 7))(k):(Instr.lookup 115 (.map (some m)) (.int .u8 k) true).run Zx w=.ok (.tuple #[Mi k,.bool (ST k)]) w:=by
 have hz:(zeroValue 221).run Zx w=.ok (.agg #[.int .u8 0,.int .u8 0,.bool false,.bool false]) w:=asC;have:=Fp Tryz.underlying115 Tryz.underlying5 hz h (Fe Mi 7) k;rw[this];unfold Nu ST;rw[Gd];by_cases h1:1≤k∧k≤((7:Nat):Int)
 ·rw[if_pos h1,decide_eq_true asB]
 ·rw[if_neg h1,decide_eq_false asB,av asB]
theorem zS:∀(n:Nat),n≤16→∀(e:Ex) (w:World) (fb c m:Nat),e.In w→e.wt≤1048576→w.cell? ⟨fb,0,none⟩=some (.map (some m))→WQ w m (Sx 26)→w.cell? ⟨c,0,none⟩=some (KM fb c) →
  Kp Zx w 186 #[e.val,.int .i64 (n:Int),.pointer (some ⟨fb,0,none⟩),.pointer (some ⟨c,0,none⟩)] (.bool (Ex.may n e))
 | 0,_,e,w,fb,c,m,ZF,hz,hf,hm,hc =>
  iC e.op e.lit.w e.lit.h e.lit.l e.head e.name e.hi e.lo e.p e.args.length e.cap _ _ _ _ _ _ _ 0 fb c m w hf (fun W z hW=>zP W m (hW▸hm.plus z) e.op) asB
 | n+1,hn,e,w,fb,c,m,ZF,hz,hf,hm,hc=>by
  have VR:=ZF;obtain⟨_,_,_,_,_,_,_,len,cap,row,kids⟩:=VR;have e1:=Ex.wt_eq e;refine iE e.op e.lit.w e.lit.h e.lit.l e.head e.name e.hi e.lo e.p e.args.length e.cap _ _ _ _ _ _ _ ((n+1:Nat):Int) fb c m _ _ w hf (fun W z hW=>zP W m (hW▸hm.plus z) e.op) asB (lX e w ZF hz) ?_;intro W z rc hW hr;have hl:e.args.length≤1048576:=by have:=XM Ex.wt Ex.wt_pos e.args;omega
  have hA:Sl.In W 9 Ex.cells (Ex.In W) ⟨e.p,e.cap,e.args⟩:=hW▸Sl.In.plus (s:=⟨e.p,e.cap,e.args⟩) ⟨len,cap,row,kids⟩ (fun _ a=>a.plus z) z;have Yo:W.cell? ⟨c,0,none⟩=some (KM fb c):=hW▸ZS hc z;have Wi:W.cell? ⟨fb,0,none⟩=some (.map (some m)):=hW▸ZS hf z;have UR:WQ W m (Sx 26):=hW▸hm.plus z;exact CT Ex.cells J6 (Ex.may n) 189 #[] #[.pointer (some ⟨c,0,none⟩),.pointer (some ⟨rc,0,none⟩)] (Ex.In W) W ⟨e.p,e.cap,e.args⟩ _ _ hA hl (enters_of func189 asC rfl)
   (fun x hx=>kV x.op x.lit.w x.lit.h x.lit.l x.head x.name x.hi x.lo x.p x.args.length x.cap c rc fb ((n+1:Nat):Int) (n:Int) _ W Yo hr (by rw[Wv _ (by omega)];omega)
    (zS n asB x W fb c m (hA.kids x hx) (Nat.le_trans (YW Ex.wt e.args x hx) asB) Wi UR Yo))
theorem mg(V:World)(c d:Array Value)(v:Value)(t u s:TypeId):∃W,((V.alloc (.cells c t)).alloc (.cells d u)).alloc (.cells #[v] s)=W∧(∃z,W=plus V z)∧(∀x,c[0]?=some x→W.cell? ⟨V.heap.size,0,none⟩=some x)∧W.cell? ⟨V.heap.size+1+1,0,none⟩=some v:=by
 obtain⟨W,y,hW,⟨z,hz⟩,ca,cb,cc⟩:=KB V c d #[v] t u s;refine⟨_,hW,⟨_,by rw[hz,ZD]⟩,fun x hx=>ca 0 _ hx y,cc 0 _ rfl y⟩
theorem Ku(e:Ex)(m:Nat)(o2 o3:Option Nat)(w:World)(he:e.In w)(hz:e.wt≤1048576)(hm:WQ w m (Sx 26)):Kp Zx w 124 #[.agg #[.map (some m),.map o2,.map o3],.agg e.cells.toArray] (.bool (Ex.may 16 e)):=by
 intro y0;have he:=he.plus y0;have hm:=hm.plus y0;obtain⟨V,hV⟩:=ZB (plus w y0);rw[hV]at he hm ⊢;clear hV;have hq:=fun (W:World) (fb c:Nat) (z:ZH) (h:W=plus V z) (hf:W.cell? ⟨fb,0,none⟩=some (.map (some m))) (hc:W.cell? ⟨c,0,none⟩=some (KM fb c))=>KH (zS 16 (Zt _) e W fb c m (h▸he.plus z) hz hf (h▸hm.plus z) hc);obtain⟨S,hS⟩:=ZB (Ex.may 16 e);rw[hS]at hq ⊢;clear hS he hm hz;obtain⟨op,⟨lw,lh,ll⟩,hd,nm,eh,el,p,cap,args⟩:=e;have hq:∀(W:World) (fb c:Nat) (z:ZH),W=plus V z→W.cell? ⟨fb,0,none⟩=some (.map (some m))→W.cell? ⟨c,0,none⟩=some (KM fb c)→Calls Zx 186 #[.agg #[.int .u8 op,.int .i64 lw,.int .u64 lh,.int .u64 ll,.string hd,.string nm,.int .i64 eh,.int .i64 el,.slice p args.length cap],.int .i64 16,.pointer (some ⟨fb,0,none⟩),.pointer (some ⟨c,0,none⟩)] W fun e w'=>e=.returned (.bool S)∧∃x,w'=plus W x:=hq;show Calls Zx 124 #[.agg #[.map (some m),.map o2,.map o3],.agg #[.int .u8 op,.int .i64 lw,.int .u64 lh,.int .u64 ll,.string hd,.string nm,.int .i64 eh,.int .i64 el,.slice p args.length cap]] V _
 generalize args.length=n1 at hq ⊢;have Sh:=Zf hq;clear hq;open Z renaming ara→TU in exact T2
theorem aaU(V:World):∃x,wX V 26=plus V x:=MQ V _
theorem aaT(V:World):WQ (wX V 26) V.heap.size (Sx 26):=⟨26,by show (V.heap.push _)[V.heap.size]?=_;simp⟩
theorem oE{W w1 w':World}(h:∃y,w1=plus W y)(hw:w'=wX w1 26):∃x,w'=plus W x∧WQ w' w1.heap.size (Sx 26):=by
 obtain⟨y,rfl⟩:=h;subst hw;obtain⟨x,hx⟩:=aaU (plus W y);exact⟨_,hx.trans (ZD _ _ _),aaT _⟩
theorem mO(W:World)(y:ZH):∃z,(plus W y).drew=plus W z:=⟨⟨y.blocks,y.draws+1⟩,rfl⟩
theorem nf(e:Ex)(w:World)(he:e.In w)(hz:e.wt≤1048576):Kp Zx w 46 #[.agg e.cells.toArray] (.bool (Ex.may 16 e)):=by
 intro y0;have he:=he.plus y0;obtain⟨V,hV⟩:=ZB (plus w y0);rw[hV]at he ⊢;clear hV;have ZF:=fun (W:World) (h:∃z,W=plus V z)=>show e.In W by
  obtain⟨z,hz⟩:=h;exact hz▸he.plus z
 have hq:=fun (W:World) (m:Nat) (h:∃z,W=plus V z) (hm:WQ W m (Sx 26))=>KH (Ku e m none none W (ZF W h) hz hm);obtain⟨S,hS⟩:=ZB (Ex.may 16 e);rw[hS]at hq ⊢;clear hS he hz ZF;obtain⟨op,⟨lw,lh,ll⟩,hd,nm,eh,el,p,cap,args⟩:=e;have hq:∀(W:World) (m:Nat),(∃z,W=plus V z)→WQ W m (Sx 26)→Calls Zx 124 #[.agg #[.map (some m),.map none,.map none],.agg #[.int .u8 op,.int .i64 lw,.int .u64 lh,.int .u64 ll,.string hd,.string nm,.int .i64 eh,.int .i64 el,.slice p args.length cap]] W fun e w'=>e=.returned (.bool S)∧∃x,w'=plus W x:=hq;show Calls Zx 46 #[.agg #[.int .u8 op,.int .i64 lw,.int .u64 lh,.int .u64 ll,.string hd,.string nm,.int .i64 eh,.int .i64 el,.slice p args.length cap]] V _
 generalize args.length=n1 at hq ⊢;have Sh:=Zf hq;clear hq;go_enter func46,ntmps46;go_wp2;obtain⟨W,yy,hW,⟨z,hz⟩,ca⟩:=YO V _ 45;open Z renaming acF→KV in exact Ij
theorem iH(a0 a1p a1n a1c s0 s1 w)(h0:Kp Zx w 65 #[.string a0] (.bool s0))(h1:Kp Zx w 55 #[.slice a1p a1n a1c,.int .i64 1,.int .i64 16,.func (.func 56) #[] #[]] (.bool s1)) :
  Kp Zx w 54 #[.agg #[.string a0,.slice a1p a1n a1c]] (.bool (((s0)&&(s1)))):=by
 open Z renaming ad6→Sk in exact Sp
theorem bM(fv fm a0 a1 a2 a3 a4 a5 a6 s0 s1 w)(h0:Kp Zx w 210 #[.agg #[.int .i64 a1,.int .u64 a2,.int .u64 a3],.bool fv] (.bool s0))(h1:Kp Zx w 210 #[.agg #[.int .i64 a4,.int .u64 a5,.int .u64 a6],.bool fm] (.bool s1)) :
  Kp Zx w 224 #[.agg #[.bool fv,.bool fm],.agg #[.int .u8 a0,.int .i64 a1,.int .u64 a2,.int .u64 a3,.int .i64 a4,.int .u64 a5,.int .u64 a6]] (.bool (((s0)&&(s1)))):=by
 open Z renaming ad7→Sk in exact Sp
theorem nJ(m1 m2 m3:Nat)(a1p a1n a1c a2 k s0 s1 w)(h0:Kp Zx w 190 #[.string a2] (.bool s0))(h1:Kp Zx w 214 #[.slice a1p a1n a1c,.int .i64 0,.int .i64 0,.func (.func 215) #[.agg #[.map (some m1),.map (some m2),.map (some m3)]] #[]] (.bool s1)) :
  Kp Zx w 193 #[.agg #[.map (some m1),.map (some m2),.map (some m3)],.agg #[.bool true,.slice a1p a1n a1c,.string a2],.int .i64 k] (.bool (((s0)&&(s1)))):=by
 exact xY
theorem nH(m1 m2 m3:Nat)(a1p a1n a1c a2 k s0 s1 w)(h0:Kp Zx w 190 #[.string a2] (.bool s0))(h1:Kp Zx w 214 #[.slice a1p a1n a1c,.int .i64 k,.int .i64 k,.func (.func 215) #[.agg #[.map (some m1),.map (some m2),.map (some m3)]] #[]] (.bool s1)) :
  Kp Zx w 193 #[.agg #[.map (some m1),.map (some m2),.map (some m3)],.agg #[.bool false,.slice a1p a1n a1c,.string a2],.int .i64 k] (.bool (((s0)&&(s1)))):=by
 exact xY
theorem iK(m1 m2 m3:Nat)(a0 a1p a1n a1c a2 a3p a3n a3c a4p a4n a4c s0 s1 s2 w)(h0:Kp Zx w 65 #[.string a0] (.bool s0))(h1:Kp Zx w 64 #[.slice a1p a1n a1c,.int .i64 0,.int .i64 8,.func (.func 65) #[] #[]] (.bool s1))(h2:Kp Zx w 132 #[.agg #[.map (some m1),.map (some m2),.map (some m3)],.agg #[.string a0,.slice a1p a1n a1c,.string a2,.slice a3p a3n a3c,.slice a4p a4n a4c]] (.bool s2)) :
  Kp Zx w 58 #[.agg #[.map (some m1),.map (some m2),.map (some m3)],.agg #[.string a0,.slice a1p a1n a1c,.string a2,.slice a3p a3n a3c,.slice a4p a4n a4c]] (.bool (((s0)&&((s1)&&(s2))))):=by
 intro y0;have h0:=h0.up y0;have h1:=h1.up y0;have h2:=h2.up y0;obtain⟨V,hV⟩:=ZB (plus w y0);rw[hV]at h0 h1 h2 ⊢;clear hV;open Z renaming ard→TU in exact T2
theorem iG(m1 m2 m3:Nat)(a0 a1p a1n a1c a2p a2n a2c s0 s1 s2 w)(h0:Kp Zx w 65 #[.string a0] (.bool s0))(h1:Kp Zx w 55 #[.slice a1p a1n a1c,.int .i64 0,.int .i64 8,.func (.func 56) #[] #[]] (.bool s1))(h2:Kp Zx w 63 #[.agg #[.map (some m1),.map (some m2),.map (some m3)],.slice a2p a2n a2c] (.bool s2)) :
  Kp Zx w 60 #[.agg #[.map (some m1),.map (some m2),.map (some m3)],.agg #[.string a0,.slice a1p a1n a1c,.slice a2p a2n a2c]] (.bool (((s0)&&((s1)&&(s2))))):=by
 intro y0;have h0:=h0.up y0;have h1:=h1.up y0;have h2:=h2.up y0;obtain⟨V,hV⟩:=ZB (plus w y0);rw[hV]at h0 h1 h2 ⊢;clear hV;open Z renaming are→TU in exact T2
theorem iM(m1 m2 m3:Nat)(a0 a1p a1n a1c a2p a2n a2c a3 a4p a4n a4c s0 s1 s2 s3 s4 w)(h0:Kp Zx w 65 #[.string a0] (.bool s0))(h1:Kp Zx w 133 #[.slice a1p a1n a1c,.int .i64 1,.int .i64 4,.func (.func 134) #[.agg #[.map (some m1),.map (some m2),.map (some m3)]] #[]] (.bool s1))(h2:Kp Zx w 64 #[.slice a2p a2n a2c,.int .i64 1,.int .i64 16,.func (.func 65) #[] #[]] (.bool s2))(h3:Kp Zx w 65 #[.string a3] (.bool s3))(h4:Kp Zx w 135 #[.slice a4p a4n a4c,.int .i64 0,.int .i64 8,.func (.func 136) #[] #[]] (.bool s4)) :
  Kp Zx w 62 #[.agg #[.map (some m1),.map (some m2),.map (some m3)],.agg #[.string a0,.slice a1p a1n a1c,.slice a2p a2n a2c,.string a3,.slice a4p a4n a4c]] (.bool (((s0)&&((s1)&&((s2)&&((s3)&&(s4))))))):=by
 intro y0;have h0:=h0.up y0;have h1:=h1.up y0;have h2:=h2.up y0;have h3:=h3.up y0;have h4:=h4.up y0;obtain⟨V,hV⟩:=ZB (plus w y0);rw[hV]at h0 h1 h2 h3 h4 ⊢;clear hV;open Z renaming arf→TU in exact T2
theorem iI(m1 m2 m3:Nat)(a0 a1 a2 a3 a4 a5 a6 a7 a8p a8n a8c a9 s0 w)(h0:Kp Zx w 124 #[.agg #[.map (some m1),.map (some m2),.map (some m3)],.agg #[.int .u8 a0,.int .i64 a1,.int .u64 a2,.int .u64 a3,.string a4,.string a5,.int .i64 a6,.int .i64 a7,.slice a8p a8n a8c]] (.bool s0)) :
  Kp Zx w 134 #[.agg #[.map (some m1),.map (some m2),.map (some m3)],.agg #[.int .u8 a0,.int .i64 a1,.int .u64 a2,.int .u64 a3,.string a4,.string a5,.int .i64 a6,.int .i64 a7,.slice a8p a8n a8c,.int .u8 a9]] (.bool (decide (1≤a9)&&(decide (a9≤3)&&s0))):=by
 open Z renaming aiW→SK in exact SX
theorem ar(fh fn fe fk a0 a1 a2 a3 a4 a5 a6 a7 a8 a9 a10 a11p a11n a11c a12p a12n a12c a13p a13n a13c s0 s1 w)(h0:Kp Zx w 211 #[.string a1,.int .u8 fh] (.bool s0))(h1:Kp Zx w 211 #[.string a2,.int .u8 fn] (.bool s1)) :
  Kp Zx w 195 #[.agg #[.int .u8 fh,.int .u8 fn,.bool fe,.bool fk],.agg #[.int .u8 a0,.string a1,.string a2,.int .u8 a3,.int .i64 a4,.int .u64 a5,.int .u64 a6,.string a7,.string a8,.int .i64 a9,.int .i64 a10,.slice a11p a11n a11c,.slice a12p a12n a12c,.slice a13p a13n a13c]] (.bool (s0&&(s1&&(fk||(((a12n:Int)==0)&&((a13n:Int)==0)))))):=by
 open Z renaming ad8→Sk in exact Sp
end Go.Proofs.YtknmeggfokpbjaaGreat
