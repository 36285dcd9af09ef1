/-
  WHAT IS PROVED HERE: a part of the proof (made narrower and merged by program; the parts: Fd Fe He HF Hi Hj Hk HL).
-/
import Derived.Test.YtheaknidbcbneaaGreatM4
import Derived.Test.YtheaknidbcbneaaGreatM20
import Derived.Test.YtheaknidbcbneaaGreatM21
import Derived.Test.YtheaknidbcbneaaGreatM18
set_option maxRecDepth 100000
set_option maxHeartbeats 8000000
set_option linter.all false
namespace Go.Proofs.YtheaknidbcbneaaGreat
open Go.RowKit Go.Proofs.Tryz
open Bool renaming true_and→Ze
open Ending renaming returned→Zf
open Lib renaming hid→Zg
open List renaming drop_of_length_le→Zh,mem_of_getElem?→Zl
open Nat renaming le_refl→Zp,zero_le→Zq
open Go.Proofs.Tryz renaming prog→Zr
open Value renaming bool→Zs,int→Zt
open Go.RowKit
theorem MK{α:Type}(cells:α→List Value)(hC:∀x,Qr (cells x))(may:α→Bool)(g:FuncId)(first caps:Array Value)(K:α→Prop)(w:World)(A:Sl α)(lo hi)(hA:A.In w 9 cells K)(hl:A.l.length≤1048576)(Wb:∀args w,(callFunc g args).run Zr w=.ok (.enter g args) w)(hf:∀x∈A.l,Kp Zr w g (first.push (.agg (cells x).toArray)++caps) (.bool (may x))) :
  Kp Zr w 150 #[A.v,.int .i64 lo,.int .i64 hi,.func (.func g) first caps] (.bool (VB lo hi may A.l)):=by
 intro y0;obtain⟨p,cap,l⟩:=A;simp only[Sl.v]at hl hf ⊢;obtain⟨n,hn⟩:=Zv l.length;have hA:=hA.row.plus y0;have hf:=fun x hx=>((hf x hx).up y0).pure;obtain⟨W,hW⟩:=Zv (plus w y0);rw[hW]at hA ⊢;simp only[hW]at hf;rw[hn]at hl;clear hW;by_cases h1:(n:Int)<lo
 case pos =>
  have hF:=Zg (show false=VB lo hi may l by unfold VB;rw[hn,decide_eq_false (show ¬lo≤(n:Int) by omega)];rfl);rw[hn];clear hA hl hn hf;go_enter func150,ntmps150;go_wp2;go_ret;exact⟨congrArg (fun z=>Zf (Zs z)) hF.out,_,(ZK W).symm⟩
 by_cases h2:hi<(n:Int)
 case pos =>
  have hF:=Zg (show false=VB lo hi may l by unfold VB;rw[hn,decide_eq_false (show ¬(n:Int)≤hi by omega)];simp);rw[hn];clear hA hl hn hf;go_enter func150,ntmps150;go_wp2;go_ret;exact⟨congrArg (fun z=>Zf (Zs z)) hF.out,_,(ZK W).symm⟩
 obtain⟨R,hR⟩:=Zv (VB lo hi may l);have h0:(l.drop 0).all may=R:=by rw[←hR];unfold VB;rw[hn,decide_eq_true (show lo≤(n:Int) by omega),decide_eq_true (show (n:Int)≤hi by omega)];rfl
 rw[hn,hR];have ZR:=Zg hA;have ZJ:=Zg hn;have ZX:=Zg hl;have Yd:=Zg h0;have Yu:=Zg hf;have Xr:=Zg hC;clear hA hl hn hR h0 hf hC;go_enter func150,ntmps150;go_wp2;go_loopw [10,23] (fun _ iv wr=>∃k:Nat,k≤n∧iv=.int .i64 (k:Int)∧Hid ((l.drop k).all may=R)∧∃y,wr=plus W y) (fun _ iv _=>n-(intOf iv).toNat)
 case atStart=>exact⟨0,Zq _,rfl,Yd,⟨#[],W.drawn⟩,(ZK W).symm⟩
 case round =>
  obtain⟨k,hk,rfl,hs,y,rfl⟩:=hrel;by_cases Zz:k<n
  ·obtain⟨a,ha⟩:=Z6 l k (by rw[ZJ.out];exact Zz)
   obtain⟨pa,rfl,hc⟩:=ZR.out k a ha;have q1:=Yu.out a (Zl ha);have ZB:(may a&&(l.drop (k+1)).all may)=R:=by rw[←SV may l k a ha];exact hs.out
   obtain⟨Z,hZ⟩:=Zv (may a);rw[hZ]at q1 ZB;obtain⟨c0,c1,c2,c3,c4,c5,c6,c7,c8p,c8n,c8c,ea⟩:=Xr.out a;rw[ea]at q1;have d0:=fun y=>(hc.plus y).c0 _ (by rw[ea];rfl);have d1:=fun y=>(hc.plus y).cs 0 _ (by rw[ea];rfl);have d2:=fun y=>(hc.plus y).cs 1 _ (by rw[ea];rfl);have d3:=fun y=>(hc.plus y).cs 2 _ (by rw[ea];rfl);have d4:=fun y=>(hc.plus y).cs 3 _ (by rw[ea];rfl);have d5:=fun y=>(hc.plus y).cs 4 _ (by rw[ea];rfl);have d6:=fun y=>(hc.plus y).cs 5 _ (by rw[ea];rfl);have d7:=fun y=>(hc.plus y).cs 6 _ (by rw[ea];rfl);have d8:=fun y=>(hc.plus y).cs 7 _ (by rw[ea];rfl);have q1':=Zg q1;have a6:=Zg (Yo k n Zz ZX.out);clear q1 hZ hc ha hs ea;cases Z with
   | true =>
    have ZD:=Zg (show (l.drop (k+1)).all may=R by rw[←ZB,Ze]);clear ZB;go_wp2_with (refine XV q1'.out ?_;rintro e w' ⟨rfl,x,rfl⟩);go_roundw
    case rel=>exact⟨k+1,Zz,congrArg (Zt .i64) a6.out,ZD,x,rfl⟩
    case measure=>exact YF k n Zz a6.out
   | false =>
    have ZD:=Zg (show false=R by rw[←ZB,Bool.false_and]);clear ZB;go_wp2_with (refine XV q1'.out ?_;rintro e w' ⟨rfl,x,rfl⟩);go_ret;exact⟨congrArg (fun z=>Zf (Zs z)) ZD.out,x,rfl⟩
  ·obtain rfl:k=n:=by omega
   have ZD:=Zg (show true=R by
    rw[←hs.out,Zh (by rw[ZJ.out];exact Zp _)];rfl)
   clear hs Zz hk;go_wp2;go_ret;exact⟨congrArg (fun z=>Zf (Zs z)) ZD.out,y,rfl⟩
theorem Kp.all{P:Program}{w:World}{f:FuncId}{args:Array Value}{v:Value}(h:Xp P f args v):Kp P w f args v:=fun _=>h _
def Lt.n(t:Lt):Nat:=t.h.toNat*18446744073709551616+t.l.toNat
theorem Rv{h:Int}(k:(Lit.int .u64 h).wf=true):0≤h∧h<18446744073709551616:=by
 simp[Lit.wf,IntKind.min,IntKind.max,IntKind.signed,IntKind.bits]at k;omega
theorem Lt.nv_eq{t:Lt}(h:t.Ok):Value.agg #[.int .u64 t.h,.int .u64 t.l]=nv t.n:=by
 have h1:=Rv h.h;have h2:=Rv h.l;have e1:hi t.n=t.h:=by unfold hi Lt.n;omega
 have e2:lo t.n=t.l:=by unfold lo Lt.n;omega
 unfold nv;rw[e1,e2]
theorem Lt.n_lt{t:Lt}(h:t.Ok):t.n<YT:=by
 have h1:=Rv h.h;have h2:=Rv h.l;unfold Lt.n YT;omega
def Re(t:Lt):Bool:=(t.w==0)||(Nq t.w&&decide (t.n % 2 ^ hw t.w=t.n))
def SG(is:Bool)(t:Lt):Bool:=if is then Re t else ((t.w==0)&&((t.h==0)&&(t.l==0)))
def Tr(s:ByteArray)(p:Int):Bool:=if s.toList==[] then p !=1 else ((p !=0)&&UR s)
def TU(a b:Int)(is:Bool):Bool:=if is then (decide (0≤b)&&(decide (b≤a)&&decide (a<128))) else ((a==0)&&(b==0))
def QQ(e:Ex):Bool:=(e.op==1)&&((e.lit.w==0)&&decide (TS e.lit.n 127≤0))
def QP:List Ex→Bool
 | [_,b]=>QQ b
 | _=>false
def Ex.fits(e:Ex):Bool:=SG (UV e.op) e.lit&&(Tr e.head (TC e.op)&&(Tr e.name (TD e.op)&&(TU e.hi e.lo (Uf e.op)&&(((e.args.length:Int)==Ue e.op)&&(!(UW e.op)||QP e.args)))))
def Ex.may:Nat→Ex→Bool
 | 0,_=>false
 | n+1,e=>SQ e.op&&(e.fits&&VB (Ue e.op) (Ue e.op) (Ex.may n) e.args)
theorem Ii(s:ByteArray)(w)(hs:s.size≤1048576):Kp Zr w 167 #[.string s] (.bool (UR s)):=Kp.all (Fv s (by omega))
theorem LY(t:Lt)(w)(h:t.Ok):Kp Zr w 166 #[.agg t.cells.toArray] (.bool (Re t)) :=
 LZ t.w t.h t.l _ _ w (NV t.w w) (Kp.all (by rw[Lt.nv_eq h];exact SK t.n t.w (Lt.n_lt h)))
theorem L1(t:Lt)(is w)(h:t.Ok):Kp Zr w 161 #[.agg t.cells.toArray,.bool is] (.bool (SG is t)):=L2 t.w t.h t.l is _ w (LY t w h)
theorem PW(s:ByteArray)(p w)(hs:s.size≤1048576):Kp Zr w 162 #[.string s,.int .u8 p] (.bool (Tr s p)):=Ij s p _ w (Ii s w hs)
theorem NI(e:Ex)(w:World)(h:e.In w):Kp Zr w 164 #[.agg e.cells.toArray] (.bool (QQ e)):=by
 obtain⟨_,_,lit,_⟩:=h;exact NJ e.op e.lit.w e.lit.h e.lit.l e.head e.name e.hi e.lo e.p e.args.length e.cap _ w (Kp.all (ID 127 (by decide))) (Kp.all (by rw[Lt.nv_eq lit];exact Iz e.lit.n 127))
theorem M5(e:Ex)(w:World)(h:e.In w)(hz:e.wt≤1048576):Kp Zr w 149 #[UX e.op,.agg e.cells.toArray] (.bool e.fits):=by
 have h':=h;obtain⟨_,_,lit,_,_,hd,nm,len,cap,row,kids⟩:=h';have Zw:=Ex.wt_eq e;have k0:=L1 e.lit (UV e.op) w lit;have k1:=PW e.head (TC e.op) w (by omega);have k2:=PW e.name (TD e.op) w (by omega);have k3:Kp Zr w 163 #[.int .i64 e.hi,.int .i64 e.lo,.bool (Uf e.op)] (.bool (TU e.hi e.lo (Uf e.op))):=G0 e.hi e.lo (Uf e.op) w;unfold UX Ex.fits;cases hS:UW e.op with
 | false =>
  refine (M2 _ _ _ _ _ e.op e.lit.w e.lit.h e.lit.l e.head e.name e.hi e.lo e.p e.args.length e.cap _ _ _ _ w k0 k1 k2 k3).eqv ?_;simp
 | true =>
  have h2:Ue e.op=2:=by
   unfold UW at hS;rw[Bool.or_eq_true,beq_iff_eq,beq_iff_eq]at hS;unfold Ue;rw[if_neg (by omega),if_pos (by omega)]
  rw[h2];by_cases hn:e.args.length=2
  ·obtain⟨a,b,hab⟩:∃a b,e.args=[a,b]:=by
    match e.args,hn with
    | [a,b],_=>exact⟨a,b,rfl⟩
   obtain⟨pa,hp,hc⟩:=row 1 b (by rw[hab];rfl);have hb:b.In w:=kids b (by rw[hab];simp);have k4:=NI b w hb;have hcells:e.cells=[.int .u8 e.op,.int .i64 e.lit.w,.int .u64 e.lit.h,.int .u64 e.lit.l,.string e.head,.string e.name,.int .i64 e.hi,.int .i64 e.lo,.slice (some pa) 2 e.cap]:=by unfold Ex.cells;rw[hp,hn]
   rw[hcells];refine (M4 _ _ _ _ e.op e.lit.w e.lit.h e.lit.l e.head e.name e.hi e.lo pa e.cap b.op b.lit.w b.lit.h b.lit.l b.head b.name b.hi b.lo b.p b.args.length b.cap _ _ _ _ _ w hc k0 k1 k2 k3 k4).eqv ?_;rw[hab];simp[QP]
  ·refine (M3 _ _ _ _ e.op e.lit.w e.lit.h e.lit.l e.head e.name e.hi e.lo e.p e.args.length e.cap _ _ _ _ w hn k0 k1 k2 k3).eqv ?_
   have:((e.args.length:Int)==2)=false:=by
    first|(simp;done)|(simp;omega)
   rw[this];simp
def S6(fb c:Nat):Value:=.func (.func 148) #[] #[.pointer (some ⟨fb,0,none⟩),.pointer (some ⟨c,0,none⟩)]
theorem Ls(a0 a1 a2 a3 a4 a5 a6 a7 a8p a8n a8c)(c rc fb:Nat)(k r:Int)(s0)(w:World)(hc:w.cell? ⟨c,0,none⟩=some (.func (.func 148) #[] #[.pointer (some ⟨fb,0,none⟩),.pointer (some ⟨c,0,none⟩)]))(hr:w.cell? ⟨rc,0,none⟩=some (.int .i64 k))(hk:wrap64 (k-1)=r)(h0:Kp Zr w 148 #[.agg #[.int .u8 a0,.int .i64 a1,.int .u64 a2,.int .u64 a3,.string a4,.string a5,.int .i64 a6,.int .i64 a7,.slice a8p a8n a8c],.int .i64 r,.pointer (some ⟨fb,0,none⟩),.pointer (some ⟨c,0,none⟩)] (.bool s0)) :
  Kp Zr w 151 #[.agg #[.int .u8 a0,.int .i64 a1,.int .u64 a2,.int .u64 a3,.string a4,.string a5,.int .i64 a6,.int .i64 a7,.slice a8p a8n a8c],.pointer (some ⟨c,0,none⟩),.pointer (some ⟨rc,0,none⟩)] (.bool (s0)):=by
 intro y0;have h0:=h0.up y0;have hc:=ZC hc y0;have hr:=ZC hr y0;obtain⟨V,hV⟩:=Zv (plus w y0);rw[hV]at h0 hc hr ⊢;clear hV;have X3:=fun a=>ZL hc a;have hr2:=fun a=>ZL hr a;obtain⟨R,hR⟩:=Zv (s0);rw[hR];have hF:=Zg (show (s0)=R by first|exact hR|(rw[←hR];simp));clear hR;have h0:=Zg h0;go_enter func151,ntmps151;go_wp2_with fail;obtain⟨W,yy,hW,⟨z,hz⟩,cb0⟩:=Ya V _ 65;rw[hW];have c0_0:=cb0 0 _ rfl;have c0_1:=cb0 1 _ rfl;have c0_2:=cb0 2 _ rfl;have c0_3:=cb0 3 _ rfl;have c0_4:=cb0 4 _ rfl;have c0_5:=cb0 5 _ rfl;have c0_6:=cb0 6 _ rfl;have c0_7:=cb0 7 _ rfl;have c0_8:=cb0 8 _ rfl;have q0c:=Zg (Zy hz h0.out);have Zw:=Zg hz;clear hW hz cb0;refine (q0c.out _).mono ?_;rintro r w' ⟨rfl,x1,rfl⟩;go_wp2_with fail;go_ret;exact⟨congrArg (fun z=>Zf (Zs z)) hF.out,by rw[Zw.out,Zx];exact⟨_,rfl⟩⟩
theorem YH(V:World)(a b d:Obj):∃x,((V.alloc a).alloc b).alloc d=plus V x:=by
 obtain⟨x,hx⟩:=XK V a b;rw[hx];exact Ri V x d
theorem RE(V:World)(c d e:Array Value)(t u s:TypeId):∃W y,((V.alloc (.cells c t)).alloc (.cells d u)).alloc (.cells e s)=plus W y∧(∃z,W=plus V z)∧(∀o v,c[o]?=v→∀y,(plus W y).cell? ⟨V.heap.size,o,none⟩=v)∧(∀o v,d[o]?=v→∀y,(plus W y).cell? ⟨V.heap.size+1,o,none⟩=v)∧(∀o v,e[o]?=v→∀y,(plus W y).cell? ⟨V.heap.size+1+1,o,none⟩=v):=by
 obtain⟨W,hW,hB,hs,ca,cb,cc,_,_,_⟩:=WL V c d e t u s;exact⟨W,⟨#[],W.drawn⟩,by rw[ZK,hW],ZS hB,ca,cb,cc⟩
theorem Ib(a0 a1 a2 a3 a4 a5 a6 a7 a8p a8n a8c fl fs fx is)(fh fn fa k:Int)(fb c m:Nat)(w:World)(hf:w.cell? ⟨fb,0,none⟩=some (.map (some m)))(hL:∀W z,W=plus w z→(Instr.lookup 201 (.map (some m)) (.int .u8 a0) true).run Zr W=.ok (.tuple #[.agg #[.bool fl,.bool fs,.int .u8 fh,.int .u8 fn,.int .i64 fa,.bool fx],.bool is]) W)(hk:¬0<k) :
  Kp Zr w 148 #[.agg #[.int .u8 a0,.int .i64 a1,.int .u64 a2,.int .u64 a3,.string a4,.string a5,.int .i64 a6,.int .i64 a7,.slice a8p a8n a8c],.int .i64 k,.pointer (some ⟨fb,0,none⟩),.pointer (some ⟨c,0,none⟩)] (.bool (false)):=by
 intro y0;have hf:=ZC hf y0;have hL:∀W z,W=plus (plus w y0) z→(Instr.lookup 201 (.map (some m)) (.int .u8 a0) true).run Zr W=.ok (.tuple #[.agg #[.bool fl,.bool fs,.int .u8 fh,.int .u8 fn,.int .i64 fa,.bool fx],.bool is]) W:=fun W z hW=>hL W _ (hW.trans (Zx _ _ _));obtain⟨V,hV⟩:=Zv (plus w y0);rw[hV]at hf hL ⊢;clear hV;have hf2:=fun a b=>ZL (ZL hf a) b;have hL2:∀a b,(Instr.lookup 201 (.map (some m)) (.int .u8 a0) true).run Zr ((V.alloc a).alloc b)=.ok (.tuple #[.agg #[.bool fl,.bool fs,.int .u8 fh,.int .u8 fn,.int .i64 fa,.bool fx],.bool is]) ((V.alloc a).alloc b):=fun a b=>by
  obtain⟨x,hx⟩:=XK V a b;exact hL _ x hx
 have hmf:∀(fn:Fn) (first cap:Array Value) (w:World),(Instr.makeFunc fn first cap).run Zr w=.ok (.func fn first cap) w:=fun _ _ _ _=>rfl;clear hL hf;cases is
 case false =>
  go_enter func148,ntmps148;go_wp2_with fail;go_ret;exact⟨rfl,YH _ _ _ _⟩
 case true =>
  go_enter func148,ntmps148;go_wp2_with fail;go_ret;exact⟨rfl,YH _ _ _ _⟩
theorem Id(a0 a1 a2 a3 a4 a5 a6 a7 a8p a8n a8c fl fs fx is)(fh fn fa k:Int)(fb c m:Nat)(s0 s1)(w:World)(hf:w.cell? ⟨fb,0,none⟩=some (.map (some m)))(hL:∀W z,W=plus w z→(Instr.lookup 201 (.map (some m)) (.int .u8 a0) true).run Zr W=.ok (.tuple #[.agg #[.bool fl,.bool fs,.int .u8 fh,.int .u8 fn,.int .i64 fa,.bool fx],.bool is]) W)(hk:0<k)(h0:Kp Zr w 149 #[.agg #[.bool fl,.bool fs,.int .u8 fh,.int .u8 fn,.int .i64 fa,.bool fx],.agg #[.int .u8 a0,.int .i64 a1,.int .u64 a2,.int .u64 a3,.string a4,.string a5,.int .i64 a6,.int .i64 a7,.slice a8p a8n a8c]] (.bool s0))(hE:∀W z rc,W=plus w z→W.cell? ⟨rc,0,none⟩=some (.int .i64 k)→Kp Zr W 150 #[.slice a8p a8n a8c,.int .i64 fa,.int .i64 fa,.func (.func 151) #[] #[.pointer (some ⟨c,0,none⟩),.pointer (some ⟨rc,0,none⟩)]] (.bool s1)) :
  Kp Zr w 148 #[.agg #[.int .u8 a0,.int .i64 a1,.int .u64 a2,.int .u64 a3,.string a4,.string a5,.int .i64 a6,.int .i64 a7,.slice a8p a8n a8c],.int .i64 k,.pointer (some ⟨fb,0,none⟩),.pointer (some ⟨c,0,none⟩)] (.bool (is&&(s0&&s1))):=by
 intro y0;have h0:=h0.up y0;have hE:∀W z rc,W=plus (plus w y0) z→W.cell? ⟨rc,0,none⟩=some (.int .i64 k)→Kp Zr W 150 #[.slice a8p a8n a8c,.int .i64 fa,.int .i64 fa,.func (.func 151) #[] #[.pointer (some ⟨c,0,none⟩),.pointer (some ⟨rc,0,none⟩)]] (.bool s1):=fun W z rc hW=>hE W _ rc (hW.trans (Zx _ _ _));have hf:=ZC hf y0;have hL:∀W z,W=plus (plus w y0) z→(Instr.lookup 201 (.map (some m)) (.int .u8 a0) true).run Zr W=.ok (.tuple #[.agg #[.bool fl,.bool fs,.int .u8 fh,.int .u8 fn,.int .i64 fa,.bool fx],.bool is]) W:=fun W z hW=>hL W _ (hW.trans (Zx _ _ _));obtain⟨V,hV⟩:=Zv (plus w y0);rw[hV]at h0 hE hf hL ⊢;clear hV;have hf2:=fun a b=>ZL (ZL hf a) b;have hL2:∀a b,(Instr.lookup 201 (.map (some m)) (.int .u8 a0) true).run Zr ((V.alloc a).alloc b)=.ok (.tuple #[.agg #[.bool fl,.bool fs,.int .u8 fh,.int .u8 fn,.int .i64 fa,.bool fx],.bool is]) ((V.alloc a).alloc b):=fun a b=>by
  obtain⟨x,hx⟩:=XK V a b;exact hL _ x hx
 have hmf:∀(fn:Fn) (first cap:Array Value) (w:World),(Instr.makeFunc fn first cap).run Zr w=.ok (.func fn first cap) w:=fun _ _ _ _=>rfl;clear hL hf;cases is
 case false =>
  clear h0 hE;go_enter func148,ntmps148;go_wp2_with fail;go_ret;exact⟨rfl,YH _ _ _ _⟩
 case true =>
  cases s0
  case false =>
   have h0:=Zg h0;have hE:=Zg hE;go_enter func148,ntmps148;go_wp2_with fail;obtain⟨W,yy,hW,⟨z,hz⟩,ca,cb,cc⟩:=RE V _ _ _ 65 3 220;rw[hW];have ca0:=ca 0 _ rfl;have ca1:=ca 1 _ rfl;have ca2:=ca 2 _ rfl;have ca3:=ca 3 _ rfl;have ca4:=ca 4 _ rfl;have ca5:=ca 5 _ rfl;have ca6:=ca 6 _ rfl;have ca7:=ca 7 _ rfl;have ca8:=ca 8 _ rfl;have cb0:=cb 0 _ rfl;have cc0:=cc 0 _ rfl;have cc1:=cc 1 _ rfl;have cc2:=cc 2 _ rfl;have cc3:=cc 3 _ rfl;have cc4:=cc 4 _ rfl;have cc5:=cc 5 _ rfl;have q0:=Zg (Zy hz h0.out);have cbW:=cb0 ⟨#[],W.drawn⟩;rw[ZK]at cbW;have q1:=Zg (hE.out W z _ hz cbW).pure;have Zw:=Zg hz;clear hW hz ca cb cc cbW h0 hE;refine (q0.out _).mono ?_;rintro r w' ⟨rfl,x1,rfl⟩;go_wp2_with fail;go_ret;exact⟨rfl,by rw[Zw.out,Zx];exact⟨_,rfl⟩⟩
  case true =>
   have h0:=Zg h0;have hE:=Zg hE;go_enter func148,ntmps148;go_wp2_with fail;obtain⟨W,yy,hW,⟨z,hz⟩,ca,cb,cc⟩:=RE V _ _ _ 65 3 220;rw[hW];have ca0:=ca 0 _ rfl;have ca1:=ca 1 _ rfl;have ca2:=ca 2 _ rfl;have ca3:=ca 3 _ rfl;have ca4:=ca 4 _ rfl;have ca5:=ca 5 _ rfl;have ca6:=ca 6 _ rfl;have ca7:=ca 7 _ rfl;have ca8:=ca 8 _ rfl;have cb0:=cb 0 _ rfl;have cc0:=cc 0 _ rfl;have cc1:=cc 1 _ rfl;have cc2:=cc 2 _ rfl;have cc3:=cc 3 _ rfl;have cc4:=cc 4 _ rfl;have cc5:=cc 5 _ rfl;have q0:=Zg (Zy hz h0.out);have cbW:=cb0 ⟨#[],W.drawn⟩;rw[ZK]at cbW;have q1:=Zg (hE.out W z _ hz cbW).pure;have Zw:=Zg hz;clear hW hz ca cb cc cbW h0 hE;refine (q0.out _).mono ?_;rintro r w' ⟨rfl,x1,rfl⟩;go_wp2_with (go_at_call 150;with_reducible refine (q1.out _).mono ?_;rintro r w' ⟨rfl,x,rfl⟩);go_ret;exact⟨rfl,by rw[Zw.out,Zx];exact⟨_,rfl⟩⟩
theorem Pp(z:Value)(f:Int→Value)(i:Int):∀(n s:Nat),WA z i ((List.range' s n).map fun (j:Nat)=>(⟨.int .u8 ((j:Int)+1),f ((j:Int)+1),j⟩:MapEntry))=if (s:Int)+1≤i∧i≤(s:Int)+n then (f i,true) else (z,false)
 | 0,s=>by rw[if_neg (by omega)];rfl
 | n+1,s=>by
  rw[List.range'_succ,List.map_cons,WA];simp only;cases hi:(i==(s:Int)+1) with
  | true =>
   rw[beq_iff_eq]at hi;rw[if_pos rfl,if_pos (by omega),hi]
  | false =>
   have hi:¬i=(s:Int)+1:=by simpa using hi
   rw[if_neg (by simp),Pp z f i n (s+1)];by_cases h:(s:Int)+1≤i∧i≤(s:Int)+(n+1:Nat)
   ·rw[if_pos h,if_pos (by omega)]
   ·rw[if_neg h,if_neg (by omega)]
theorem LC(f:Int→Value)(n:Nat):SP (((List.range n).map fun (j:Nat)=>(⟨.int .u8 ((j:Int)+1),f ((j:Int)+1),j⟩:MapEntry)).toArray).toList:=by
 intro e he;simp only[List.mem_map]at he;obtain⟨j,_,rfl⟩:=he;exact⟨_,rfl⟩
theorem Ll(z:Value)(f:Int→Value)(i:Int)(n:Nat):WA z i (((List.range n).map fun (j:Nat)=>(⟨.int .u8 ((j:Int)+1),f ((j:Int)+1),j⟩:MapEntry)).toArray).toList=if 1≤i∧i≤n then (f i,true) else (z,false):=by
 have:=Pp z f i n 0;rw[←List.range_eq_range']at this;simpa using this
theorem F1{op:Int}(h:¬(1≤op∧op≤26)):UX op=.agg #[.bool false,.bool false,.int .u8 0,.int .u8 0,.int .i64 0,.bool false]:=by
 have e1:UV op=false:=by unfold UV;simp;omega
 have e2:Uf op=false:=by unfold Uf;simp;omega
 have e3:TC op=0:=by unfold TC;rw[if_neg (by omega)]
 have e4:TD op=0:=by unfold TD;rw[if_neg (by omega)]
 have e5:Ue op=0:=by unfold Ue;rw[if_neg (by omega),if_neg (by omega)]
 have e6:UW op=false:=by unfold UW;simp;omega
 unfold UX;rw[e1,e2,e3,e4,e5,e6]
theorem PS(w:World)(m:Nat)(h:Yf w m (Vl 26))(op):(Instr.lookup 201 (.map (some m)) (.int .u8 op) true).run Zr w=.ok (.tuple #[UX op,.bool (SQ op)]) w:=by
 have hz:(zeroValue 220).run Zr w=.ok (.agg #[.bool false,.bool false,.int .u8 0,.int .u8 0,.int .i64 0,.bool false]) w:=by kernel_rfl
 have:=PR Tryz.underlying201 Tryz.underlying5 hz h (LC UX 26) op;rw[this];unfold Vl SQ;rw[Ll];by_cases h1:1≤op∧op≤((26:Nat):Int)
 ·rw[if_pos h1,decide_eq_true (by omega)]
 ·rw[if_neg h1,decide_eq_false (by omega),F1 (by omega)]
theorem PV:∀(n:Nat),n≤16→∀(e:Ex) (w:World) (fb c m:Nat),e.In w→e.wt≤1048576→w.cell? ⟨fb,0,none⟩=some (.map (some m))→Yf w m (Vl 26)→w.cell? ⟨c,0,none⟩=some (S6 fb c) →
  Kp Zr w 148 #[e.val,.int .i64 (n:Int),.pointer (some ⟨fb,0,none⟩),.pointer (some ⟨c,0,none⟩)] (.bool (Ex.may n e))
 | 0,_,e,w,fb,c,m,ZQ,hz,hf,hm,hc =>
  Ib e.op e.lit.w e.lit.h e.lit.l e.head e.name e.hi e.lo e.p e.args.length e.cap _ _ _ _ _ _ _ 0 fb c m w hf (fun W z hW=>PS W m (hW▸hm.plus z) e.op) (by omega)
 | n+1,hn,e,w,fb,c,m,ZQ,hz,hf,hm,hc=>by
  have hin':=ZQ;obtain⟨_,_,_,_,_,_,_,len,cap,row,kids⟩:=hin';have e1:=Ex.wt_eq e;refine Id e.op e.lit.w e.lit.h e.lit.l e.head e.name e.hi e.lo e.p e.args.length e.cap _ _ _ _ _ _ _ ((n+1:Nat):Int) fb c m _ _ w hf (fun W z hW=>PS W m (hW▸hm.plus z) e.op) (by omega) (M5 e w ZQ hz) ?_;intro W z rc hW hr;have hl:e.args.length≤1048576:=by have:=Yw Ex.wt Ex.wt_pos e.args;omega
  have hA:Sl.In W 9 Ex.cells (Ex.In W) ⟨e.p,e.cap,e.args⟩:=hW▸Sl.In.plus (s:=⟨e.p,e.cap,e.args⟩) ⟨len,cap,row,kids⟩ (fun _ a=>a.plus z) z;have Vb:W.cell? ⟨c,0,none⟩=some (S6 fb c):=hW▸ZC hc z;have Yu:W.cell? ⟨fb,0,none⟩=some (.map (some m)):=hW▸ZC hf z;have YJ:Yf W m (Vl 26):=hW▸hm.plus z;exact MK Ex.cells OO (Ex.may n) 151 #[] #[.pointer (some ⟨c,0,none⟩),.pointer (some ⟨rc,0,none⟩)] (Ex.In W) W ⟨e.p,e.cap,e.args⟩ _ _ hA hl (enters_of func151 (by kernel_rfl) rfl)
   (fun x hx=>Ls x.op x.lit.w x.lit.h x.lit.l x.head x.name x.hi x.lo x.p x.args.length x.cap c rc fb ((n+1:Nat):Int) (n:Int) _ W Vb hr (by rw[Rw _ (by omega)];omega)
    (PV n (by omega) x W fb c m (hA.kids x hx) (Nat.le_trans (We Ex.wt e.args x hx) (by omega)) Yu YJ Vb))
theorem Mu(V:World)(c d:Array Value)(v:Value)(t u s:TypeId):∃W,((V.alloc (.cells c t)).alloc (.cells d u)).alloc (.cells #[v] s)=W∧(∃z,W=plus V z)∧(∀x,c[0]?=some x→W.cell? ⟨V.heap.size,0,none⟩=some x)∧W.cell? ⟨V.heap.size+1+1,0,none⟩=some v:=by
 obtain⟨W,y,hW,⟨z,hz⟩,ca,cb,cc⟩:=RE V c d #[v] t u s;refine⟨_,hW,⟨_,by rw[hz,Zx]⟩,fun x hx=>ca 0 _ hx y,cc 0 _ rfl y⟩
theorem NT(e:Ex)(m:Nat)(o2 o3:Option Nat)(w:World)(he:e.In w)(hz:e.wt≤1048576)(hm:Yf w m (Vl 26)):Kp Zr w 134 #[.agg #[.map (some m),.map o2,.map o3],.agg e.cells.toArray] (.bool (Ex.may 16 e)):=by
 intro y0;have he:=he.plus y0;have hm:=hm.plus y0;obtain⟨V,hV⟩:=Zv (plus w y0);rw[hV]at he hm ⊢;clear hV;have hq:=fun (W:World) (fb c:Nat) (z:ZA) (h:W=plus V z) (hf:W.cell? ⟨fb,0,none⟩=some (.map (some m))) (hc:W.cell? ⟨c,0,none⟩=some (S6 fb c))=>YN (PV 16 (Zp _) e W fb c m (h▸he.plus z) hz hf (h▸hm.plus z) hc);obtain⟨S,hS⟩:=Zv (Ex.may 16 e);rw[hS]at hq ⊢;clear hS he hm hz;obtain⟨op,⟨lw,lh,ll⟩,hd,nm,eh,el,p,cap,args⟩:=e;have hq:∀(W:World) (fb c:Nat) (z:ZA),W=plus V z→W.cell? ⟨fb,0,none⟩=some (.map (some m))→W.cell? ⟨c,0,none⟩=some (S6 fb c)→Calls Zr 148 #[.agg #[.int .u8 op,.int .i64 lw,.int .u64 lh,.int .u64 ll,.string hd,.string nm,.int .i64 eh,.int .i64 el,.slice p args.length cap],.int .i64 16,.pointer (some ⟨fb,0,none⟩),.pointer (some ⟨c,0,none⟩)] W fun e w'=>e=.returned (.bool S)∧∃x,w'=plus W x:=hq;show Calls Zr 134 #[.agg #[.map (some m),.map o2,.map o3],.agg #[.int .u8 op,.int .i64 lw,.int .u64 lh,.int .u64 ll,.string hd,.string nm,.int .i64 eh,.int .i64 el,.slice p args.length cap]] V _
 generalize args.length=n1 at hq ⊢;have hq':=Zg hq;clear hq;have hmf:∀(fn:Fn) (first cap:Array Value) (w:World),(Instr.makeFunc fn first cap).run Zr w=.ok (.func fn first cap) w:=fun _ _ _ _=>rfl;go_enter func134,ntmps134;go_wp2_with fail;obtain⟨W,hW,⟨z,hz⟩,hf,hc⟩:=Mu V _ _ _ _ _ _;rw[hW];have Zw:=Zg hz;refine (hq'.out W _ _ z hz (hf _ rfl) hc).mono ?_;clear hW hz hc hf;rintro r w' ⟨rfl,x,rfl⟩;go_wp2;go_ret;exact⟨rfl,by rw[Zw.out,Zx];exact⟨_,rfl⟩⟩
theorem FR(V:World):∃x,wX V 26=plus V x:=ZW V _
theorem FQ(V:World):Yf (wX V 26) V.heap.size (Vl 26):=⟨26,by show (V.heap.push _)[V.heap.size]?=_;simp⟩
theorem NA{W w1 w':World}(h:∃y,w1=plus W y)(hw:w'=wX w1 26):∃x,w'=plus W x∧Yf w' w1.heap.size (Vl 26):=by
 obtain⟨y,rfl⟩:=h;subst hw;obtain⟨x,hx⟩:=FR (plus W y);exact⟨_,hx.trans (Zx _ _ _),FQ _⟩
theorem MF(W:World)(y:ZA):∃z,(plus W y).drew=plus W z:=⟨⟨y.blocks,y.draws+1⟩,rfl⟩
theorem NU(e:Ex)(w:World)(he:e.In w)(hz:e.wt≤1048576):Kp Zr w 106 #[.agg e.cells.toArray] (.bool (Ex.may 16 e)):=by
 intro y0;have he:=he.plus y0;obtain⟨V,hV⟩:=Zv (plus w y0);rw[hV]at he ⊢;clear hV;have ZQ:=fun (W:World) (h:∃z,W=plus V z)=>show e.In W by
  obtain⟨z,hz⟩:=h;exact hz▸he.plus z
 have hq:=fun (W:World) (m:Nat) (h:∃z,W=plus V z) (hm:Yf W m (Vl 26))=>YN (NT e m none none W (ZQ W h) hz hm);obtain⟨S,hS⟩:=Zv (Ex.may 16 e);rw[hS]at hq ⊢;clear hS he hz ZQ;obtain⟨op,⟨lw,lh,ll⟩,hd,nm,eh,el,p,cap,args⟩:=e;have hq:∀(W:World) (m:Nat),(∃z,W=plus V z)→Yf W m (Vl 26)→Calls Zr 134 #[.agg #[.map (some m),.map none,.map none],.agg #[.int .u8 op,.int .i64 lw,.int .u64 lh,.int .u64 ll,.string hd,.string nm,.int .i64 eh,.int .i64 el,.slice p args.length cap]] W fun e w'=>e=.returned (.bool S)∧∃x,w'=plus W x:=hq;show Calls Zr 106 #[.agg #[.int .u8 op,.int .i64 lw,.int .u64 lh,.int .u64 ll,.string hd,.string nm,.int .i64 eh,.int .i64 el,.slice p args.length cap]] V _
 generalize args.length=n1 at hq ⊢;have hq':=Zg hq;clear hq;go_enter func106,ntmps106;go_wp2;obtain⟨W,yy,hW,⟨z,hz⟩,ca⟩:=Ya V _ 65;rw[hW];have ca0:=ca 0 _ rfl;have ca1:=ca 1 _ rfl;have ca2:=ca 2 _ rfl;have ca3:=ca 3 _ rfl;have ca4:=ca 4 _ rfl;have ca5:=ca 5 _ rfl;have ca6:=ca 6 _ rfl;have ca7:=ca 7 _ rfl;have ca8:=ca 8 _ rfl;clear hW ca;have Zw:=Zg hz;clear hz;go_region_with (first|(go_at_call 133;refine (M9 _).mono ?_;rintro r w' ⟨rfl,hw⟩;obtain⟨x,rfl,hm⟩:=NA (MF W yy) hw;clear hw)|(go_at_call 134;refine (hq'.out _ _ ⟨_,by rw[Zw.out,Zx]⟩ (by assumption)).mono ?_;rintro r w' ⟨rfl,x2,rfl⟩));all_goals
  go_wp2;go_ret;exact⟨rfl,by rw[Zw.out,Zx,Zx];exact⟨_,rfl⟩⟩
structure Rx (w:World) (m1 m2 m3:Nat):Prop where
 x:Yf w m1 (Vl 26)
 s:Yf w m2 (MU 3)
 t:Yf w m3 (MV 7)
theorem Rx.plus{w:World}{m1 m2 m3:Nat}(h:Rx w m1 m2 m3)(y:ZA):Rx (plus w y) m1 m2 m3:=⟨h.x.plus y,h.s.plus y,h.t.plus y⟩
def F2:Ex:=.mk 0 ⟨0,0,0⟩ ⟨#[]⟩ ⟨#[]⟩ 0 0 none 0 []
def St.fits(s:St):Bool:=Tr s.head (O3 s.kind)&&(Tr s.name (O4 s.kind)&&(O1 s.kind||(((s.thn.length:Int)==0)&&((s.els.length:Int)==0))))
def St.one(s:St):Bool:=G7 s.kind&&(s.fits&&(if O2 s.kind then Ex.may 16 s.e else s.e.same F2))
theorem Yf.set{w:World}{r:Nat}{es:Array MapEntry}(h:Yf w r es)(b o:Nat)(v:Value)(hr:r≠b):Yf (w.setCell ⟨b,o,none⟩ v) r es:=by
 obtain⟨n,h⟩:=h;exact⟨n,by rw[Below.heap_setCell w ⟨b,o,none⟩ v r hr];exact h⟩
end Go.Proofs.YtheaknidbcbneaaGreat
