/-
  WHAT IS PROVED HERE: a part of the proof (made narrower and merged by program; the parts: Vu Vv Vw Vx).
-/
import Derived.Recover
import Derived.Test.YtknmeggfokpbjaaGreatM15
import Derived.Test.YtknmeggfokpbjaaGreatM17
import Derived.Test.YtknmeggfokpbjaaGreatM12
set_option maxRecDepth 100000
set_option maxHeartbeats 8000000
set_option linter.all false
namespace Go.Proofs.YtknmeggfokpbjaaGreat
open Z
open Go.RowKit Go.Proofs.Tryz
open AllReadyH renaming cons→Za
open Bool renaming and_eq_true→Zc
open Lib renaming hid→Zf
open List renaming drop_succ_cons→Zg,drop_zero→Zh,map_cons→Zm,setIfInBounds_toArray→Zp,set_cons_succ→Zq,set_cons_zero→Zr,take_succ_cons→Zs
open Nat renaming lt_of_lt_of_le→Zu
open Go.Proofs.Tryz renaming prog→Zx
open Go.RowKit
abbrev oB(V:World)(f:FuncId)(args:Array Value)(E:Ending):Prop:=∀W,(∃z,W=plus V z)→Calls Zx f args W fun e w'=>e=E∧∃x,w'=plus W x
theorem Tt{V:World}{f:FuncId}{args:Array Value}{E:Ending}(h:Yr Zx V f args E):oB V f args E:=fun W ⟨z,hz⟩=>by subst hz;exact h z
theorem xF{V W:World}(h:∃z,W=plus V z):∃z,W.drew=plus V z:=aut
theorem So{V W:World}(h:∃z,W=plus V z)(o:Obj):∃z,W.alloc o=plus V z:=by obtain⟨z,rfl⟩:=h;exact MS o
theorem Uj{V W:World}(h:∃z,W=plus V z)(x:ZH):∃z,plus W x=plus V z:=aug
theorem EB{V:World}(y:ZH):∃z,plus V y=plus V z:=⟨y,rfl⟩
structure PW (X:World) (b:Nat) (t:Ty) (U:World):Prop where
 up:∃z,U=plus X z
 lt:b<U.heap.size
 t0:U.cell? ⟨b,0,none⟩=some (.int .i64 t.w)
 t1:U.cell? ⟨b,1,none⟩=some (.bool t.tr)
 t2:U.cell? ⟨b,2,none⟩=some (.bool t.fr)
structure Ni (X:World) (b:Nat) (U:World):Prop where
 rb:RB X b U
 lt:b<U.heap.size
theorem Ni.plus{X U:World}{b:Nat}(h:Ni X b U)(x:ZH):Ni X b (Go.Proofs.YtknmeggfokpbjaaGreat.plus U x):=by
 obtain⟨⟨⟨z,rfl⟩,lo,r0,r1,r2,rf⟩,lt⟩:=h;exact⟨⟨⟨_,ZD _ _ _⟩,lo,(TI _ x b 0 lt).trans r0,(TI _ x b 1 lt).trans r1,(TI _ x b 2 lt).trans r2,fun o=>(Od _ x b o lt).trans (rf o)⟩,Zu lt (XZ _ x)⟩
theorem yb{X U:World}(h:∃z,U=Go.Proofs.YtknmeggfokpbjaaGreat.plus X z):Ni X U.heap.size (U.alloc (.cells #[.int .i64 0,.bool false,.bool false] 75)):=by
 have hs:X.heap.size≤U.heap.size:=by obtain⟨z,rfl⟩:=h;exact XZ _ _
 exact⟨⟨So h _,hs,YI U _ _ _ 0 rfl,YI U _ _ _ 1 rfl,YI U _ _ _ 2 rfl,fun o=>Ra U _ _ _ o rfl⟩,asD⟩
theorem Ni.set{X U:World}{b:Nat}(h:Ni X b U)(t:Ty):PW X b t (((U.setCell ⟨b,0,none⟩ (.int .i64 t.w)).setCell ⟨b,1,none⟩ (.bool t.tr)).setCell ⟨b,2,none⟩ (.bool t.fr)):=by
 obtain⟨Z,hZ,g0,g1,g2,hx⟩:=h.rb.set t;refine⟨?_,?_,?_,?_,?_⟩
 ·rw[hZ];exact hx
 ·simpa using h.lt
 ·rw[hZ];exact g0
 ·rw[hZ];exact g1
 ·rw[hZ];exact g2
theorem aaC(p0 n0 c0 p1 n1 c1 p2 n2 c2 p3 n3 c3 p4 n4 c4 p5 n5 c5 p6 n6 c6 act lw lh ll hd nm eh el)(pa:Option Addr)(en ec:Nat)(op tw tt tf w)(h0:en=0)(k:Yr Zx w 47 #[.agg #[.slice p0 n0 c0,.slice p1 n1 c1,.slice p2 n2 c2,.slice p3 n3 c3,.slice p4 n4 c4,.slice p5 n5 c5,.slice p6 n6 c6,.int .i64 act],.agg #[.int .u8 op,.int .i64 lw,.int .u64 lh,.int .u64 ll,.string hd,.string nm,.int .i64 eh,.int .i64 el,.slice (pa) en ec]] (.returned (.agg #[.int .i64 tw,.bool tt,.bool tf]))) :
  Yr Zx w 28 #[.agg #[.slice p0 n0 c0,.slice p1 n1 c1,.slice p2 n2 c2,.slice p3 n3 c3,.slice p4 n4 c4,.slice p5 n5 c5,.slice p6 n6 c6,.int .i64 act],.agg #[.int .u8 op,.int .i64 lw,.int .u64 lh,.int .u64 ll,.string hd,.string nm,.int .i64 eh,.int .i64 el,.slice (pa) en ec]] (.returned (.agg #[.int .i64 tw,.bool tt,.bool tf])):=by
 intro y0;have k:=k.up y0;obtain⟨V,hV⟩:=ZB (plus w y0);rw[hV]at k ⊢;clear hV;have k':=Zf k;clear k;open Z renaming ajK→Jh in exact IR
theorem aaD(p0 n0 c0 p1 n1 c1 p2 n2 c2 p3 n3 c3 p4 n4 c4 p5 n5 c5 p6 n6 c6 act lw lh ll hd nm eh el)(pa:Option Addr)(en ec:Nat)(op)(r:Int)(w)(h0:en=0)(k:Yr Zx w 47 #[.agg #[.slice p0 n0 c0,.slice p1 n1 c1,.slice p2 n2 c2,.slice p3 n3 c3,.slice p4 n4 c4,.slice p5 n5 c5,.slice p6 n6 c6,.int .i64 act],.agg #[.int .u8 op,.int .i64 lw,.int .u64 lh,.int .u64 ll,.string hd,.string nm,.int .i64 eh,.int .i64 el,.slice (pa) en ec]] (YJ r)) :
  Yr Zx w 28 #[.agg #[.slice p0 n0 c0,.slice p1 n1 c1,.slice p2 n2 c2,.slice p3 n3 c3,.slice p4 n4 c4,.slice p5 n5 c5,.slice p6 n6 c6,.int .i64 act],.agg #[.int .u8 op,.int .i64 lw,.int .u64 lh,.int .u64 ll,.string hd,.string nm,.int .i64 eh,.int .i64 el,.slice (pa) en ec]] (YJ r):=by
 intro y0;have k:=k.up y0;obtain⟨V,hV⟩:=ZB (plus w y0);rw[hV]at k ⊢;clear hV;have k':=Zf k;clear k;open Z renaming ajL→Jh in exact IR
theorem aaB(p0 n0 c0 p1 n1 c1 p2 n2 c2 p3 n3 c3 p4 n4 c4 p5 n5 c5 p6 n6 c6 act lw lh ll hd nm eh el)(pa:Addr)(en ec:Nat)(op r:Int)(XR alw alh all ahd anm aeh ael ap an ac)(w:World)(h0:0<en)(ma:Yg w pa [.int .u8 XR,.int .i64 alw,.int .u64 alh,.int .u64 all,.string ahd,.string anm,.int .i64 aeh,.int .i64 ael,.slice ap an ac])(ka:Yr Zx w 28 #[.agg #[.slice p0 n0 c0,.slice p1 n1 c1,.slice p2 n2 c2,.slice p3 n3 c3,.slice p4 n4 c4,.slice p5 n5 c5,.slice p6 n6 c6,.int .i64 act],.agg #[.int .u8 XR,.int .i64 alw,.int .u64 alh,.int .u64 all,.string ahd,.string anm,.int .i64 aeh,.int .i64 ael,.slice ap an ac]] (YJ r)) :
  Yr Zx w 28 #[.agg #[.slice p0 n0 c0,.slice p1 n1 c1,.slice p2 n2 c2,.slice p3 n3 c3,.slice p4 n4 c4,.slice p5 n5 c5,.slice p6 n6 c6,.int .i64 act],.agg #[.int .u8 op,.int .i64 lw,.int .u64 lh,.int .u64 ll,.string hd,.string nm,.int .i64 eh,.int .i64 el,.slice (some pa) en ec]] (YJ r):=by
 intro y0;have ka:=ka.up y0;have ma:=ma.plus y0;obtain⟨V,hV⟩:=ZB (plus w y0);rw[hV]at ka ma ⊢;clear hV;have ka':=Zf ka;have ma':=Zf ma;clear ka ma;open Z renaming ajM→Jh in exact IR
theorem aaE(p0 n0 c0 p1 n1 c1 p2 n2 c2 p3 n3 c3 p4 n4 c4 p5 n5 c5 p6 n6 c6 act lw lh ll hd nm eh el)(pa:Addr)(en ec:Nat)(op tw:Int)(tt tf XR alw alh all ahd anm aeh ael ap an ac rw2 rt2 rf2)(w:World)(h1:en=1)(ma:Yg w pa [.int .u8 XR,.int .i64 alw,.int .u64 alh,.int .u64 all,.string ahd,.string anm,.int .i64 aeh,.int .i64 ael,.slice ap an ac])(o14:(op==14)=false)(o15:(op==15)=false)(ka:Yr Zx w 28 #[.agg #[.slice p0 n0 c0,.slice p1 n1 c1,.slice p2 n2 c2,.slice p3 n3 c3,.slice p4 n4 c4,.slice p5 n5 c5,.slice p6 n6 c6,.int .i64 act],.agg #[.int .u8 XR,.int .i64 alw,.int .u64 alh,.int .u64 all,.string ahd,.string anm,.int .i64 aeh,.int .i64 ael,.slice ap an ac]] (.returned (.agg #[.int .i64 tw,.bool tt,.bool tf])))(ko:Yr Zx w 50 #[.agg #[.int .u8 op,.int .i64 lw,.int .u64 lh,.int .u64 ll,.string hd,.string nm,.int .i64 eh,.int .i64 el,.slice (some pa) en ec],.agg #[.int .i64 tw,.bool tt,.bool tf]] (.returned (.agg #[.int .i64 rw2,.bool rt2,.bool rf2]))) :
  Yr Zx w 28 #[.agg #[.slice p0 n0 c0,.slice p1 n1 c1,.slice p2 n2 c2,.slice p3 n3 c3,.slice p4 n4 c4,.slice p5 n5 c5,.slice p6 n6 c6,.int .i64 act],.agg #[.int .u8 op,.int .i64 lw,.int .u64 lh,.int .u64 ll,.string hd,.string nm,.int .i64 eh,.int .i64 el,.slice (some pa) en ec]] (.returned (.agg #[.int .i64 rw2,.bool rt2,.bool rf2])):=by
 open Z renaming asn→Jy in exact Hw
theorem aaF(p0 n0 c0 p1 n1 c1 p2 n2 c2 p3 n3 c3 p4 n4 c4 p5 n5 c5 p6 n6 c6 act lw lh ll hd nm eh el)(pa:Addr)(en ec:Nat)(op tw:Int)(tt tf XR alw alh all ahd anm aeh ael ap an ac)(r2:Int)(w:World)(h1:en=1)(ma:Yg w pa [.int .u8 XR,.int .i64 alw,.int .u64 alh,.int .u64 all,.string ahd,.string anm,.int .i64 aeh,.int .i64 ael,.slice ap an ac])(o14:(op==14)=false)(o15:(op==15)=false)(ka:Yr Zx w 28 #[.agg #[.slice p0 n0 c0,.slice p1 n1 c1,.slice p2 n2 c2,.slice p3 n3 c3,.slice p4 n4 c4,.slice p5 n5 c5,.slice p6 n6 c6,.int .i64 act],.agg #[.int .u8 XR,.int .i64 alw,.int .u64 alh,.int .u64 all,.string ahd,.string anm,.int .i64 aeh,.int .i64 ael,.slice ap an ac]] (.returned (.agg #[.int .i64 tw,.bool tt,.bool tf])))(ko:Yr Zx w 50 #[.agg #[.int .u8 op,.int .i64 lw,.int .u64 lh,.int .u64 ll,.string hd,.string nm,.int .i64 eh,.int .i64 el,.slice (some pa) en ec],.agg #[.int .i64 tw,.bool tt,.bool tf]] (YJ r2)) :
  Yr Zx w 28 #[.agg #[.slice p0 n0 c0,.slice p1 n1 c1,.slice p2 n2 c2,.slice p3 n3 c3,.slice p4 n4 c4,.slice p5 n5 c5,.slice p6 n6 c6,.int .i64 act],.agg #[.int .u8 op,.int .i64 lw,.int .u64 lh,.int .u64 ll,.string hd,.string nm,.int .i64 eh,.int .i64 el,.slice (some pa) en ec]] (YJ r2):=by
 open Z renaming aso→Jy in exact Hw
theorem aaG(p0 n0 c0 p1 n1 c1 p2 n2 c2 p3 n3 c3 p4 n4 c4 p5 n5 c5 p6 n6 c6 act lw lh ll hd nm eh el)(pa:Addr)(en ec:Nat)(tw XR alw alh all ahd anm aeh ael ap an ac)(w:World)(h0:0<en)(ma:Yg w pa [.int .u8 XR,.int .i64 alw,.int .u64 alh,.int .u64 all,.string ahd,.string anm,.int .i64 aeh,.int .i64 ael,.slice ap an ac])(ka:Yr Zx w 28 #[.agg #[.slice p0 n0 c0,.slice p1 n1 c1,.slice p2 n2 c2,.slice p3 n3 c3,.slice p4 n4 c4,.slice p5 n5 c5,.slice p6 n6 c6,.int .i64 act],.agg #[.int .u8 XR,.int .i64 alw,.int .u64 alh,.int .u64 all,.string ahd,.string anm,.int .i64 aeh,.int .i64 ael,.slice ap an ac]] (.returned (.agg #[.int .i64 tw,.bool false,.bool false])))(ko:Yr Zx w 49 #[.agg #[.int .i64 tw,.bool false,.bool false]] (.returned (.int .i64 tw))) :
  Yr Zx w 28 #[.agg #[.slice p0 n0 c0,.slice p1 n1 c1,.slice p2 n2 c2,.slice p3 n3 c3,.slice p4 n4 c4,.slice p5 n5 c5,.slice p6 n6 c6,.int .i64 act],.agg #[.int .u8 14,.int .i64 lw,.int .u64 lh,.int .u64 ll,.string hd,.string nm,.int .i64 eh,.int .i64 el,.slice (some pa) en ec]] (.returned (.agg #[.int .i64 tw,.bool false,.bool false])):=by
 exact vB
theorem aaH(p0 n0 c0 p1 n1 c1 p2 n2 c2 p3 n3 c3 p4 n4 c4 p5 n5 c5 p6 n6 c6 act lw lh ll hd nm eh el)(pa:Addr)(en ec:Nat)(tw tt tf)(r2:Int)(XR alw alh all ahd anm aeh ael ap an ac)(w:World)(h0:0<en)(ma:Yg w pa [.int .u8 XR,.int .i64 alw,.int .u64 alh,.int .u64 all,.string ahd,.string anm,.int .i64 aeh,.int .i64 ael,.slice ap an ac])(ka:Yr Zx w 28 #[.agg #[.slice p0 n0 c0,.slice p1 n1 c1,.slice p2 n2 c2,.slice p3 n3 c3,.slice p4 n4 c4,.slice p5 n5 c5,.slice p6 n6 c6,.int .i64 act],.agg #[.int .u8 XR,.int .i64 alw,.int .u64 alh,.int .u64 all,.string ahd,.string anm,.int .i64 aeh,.int .i64 ael,.slice ap an ac]] (.returned (.agg #[.int .i64 tw,.bool tt,.bool tf])))(ko:Yr Zx w 49 #[.agg #[.int .i64 tw,.bool tt,.bool tf]] (YJ r2)) :
  Yr Zx w 28 #[.agg #[.slice p0 n0 c0,.slice p1 n1 c1,.slice p2 n2 c2,.slice p3 n3 c3,.slice p4 n4 c4,.slice p5 n5 c5,.slice p6 n6 c6,.int .i64 act],.agg #[.int .u8 14,.int .i64 lw,.int .u64 lh,.int .u64 ll,.string hd,.string nm,.int .i64 eh,.int .i64 el,.slice (some pa) en ec]] (YJ r2):=by
 exact vE
theorem aaI(p0 n0 c0 p1 n1 c1 p2 n2 c2 p3 n3 c3 p4 n4 c4 p5 n5 c5 p6 n6 c6 act lw lh ll hd nm eh el)(pa:Addr)(en ec:Nat)(tw XR alw alh all ahd anm aeh ael ap an ac)(w:World)(h0:0<en)(ma:Yg w pa [.int .u8 XR,.int .i64 alw,.int .u64 alh,.int .u64 all,.string ahd,.string anm,.int .i64 aeh,.int .i64 ael,.slice ap an ac])(ka:Yr Zx w 28 #[.agg #[.slice p0 n0 c0,.slice p1 n1 c1,.slice p2 n2 c2,.slice p3 n3 c3,.slice p4 n4 c4,.slice p5 n5 c5,.slice p6 n6 c6,.int .i64 act],.agg #[.int .u8 XR,.int .i64 alw,.int .u64 alh,.int .u64 all,.string ahd,.string anm,.int .i64 aeh,.int .i64 ael,.slice ap an ac]] (.returned (.agg #[.int .i64 tw,.bool false,.bool false])))(ko:Yr Zx w 49 #[.agg #[.int .i64 tw,.bool false,.bool false]] (.returned (.int .i64 tw))) :
  Yr Zx w 28 #[.agg #[.slice p0 n0 c0,.slice p1 n1 c1,.slice p2 n2 c2,.slice p3 n3 c3,.slice p4 n4 c4,.slice p5 n5 c5,.slice p6 n6 c6,.int .i64 act],.agg #[.int .u8 15,.int .i64 lw,.int .u64 lh,.int .u64 ll,.string hd,.string nm,.int .i64 eh,.int .i64 el,.slice (some pa) en ec]] (.returned (.agg #[.int .i64 tw,.bool false,.bool false])):=by
 exact vB
theorem aaJ(p0 n0 c0 p1 n1 c1 p2 n2 c2 p3 n3 c3 p4 n4 c4 p5 n5 c5 p6 n6 c6 act lw lh ll hd nm eh el)(pa:Addr)(en ec:Nat)(tw tt tf)(r2:Int)(XR alw alh all ahd anm aeh ael ap an ac)(w:World)(h0:0<en)(ma:Yg w pa [.int .u8 XR,.int .i64 alw,.int .u64 alh,.int .u64 all,.string ahd,.string anm,.int .i64 aeh,.int .i64 ael,.slice ap an ac])(ka:Yr Zx w 28 #[.agg #[.slice p0 n0 c0,.slice p1 n1 c1,.slice p2 n2 c2,.slice p3 n3 c3,.slice p4 n4 c4,.slice p5 n5 c5,.slice p6 n6 c6,.int .i64 act],.agg #[.int .u8 XR,.int .i64 alw,.int .u64 alh,.int .u64 all,.string ahd,.string anm,.int .i64 aeh,.int .i64 ael,.slice ap an ac]] (.returned (.agg #[.int .i64 tw,.bool tt,.bool tf])))(ko:Yr Zx w 49 #[.agg #[.int .i64 tw,.bool tt,.bool tf]] (YJ r2)) :
  Yr Zx w 28 #[.agg #[.slice p0 n0 c0,.slice p1 n1 c1,.slice p2 n2 c2,.slice p3 n3 c3,.slice p4 n4 c4,.slice p5 n5 c5,.slice p6 n6 c6,.int .i64 act],.agg #[.int .u8 15,.int .i64 lw,.int .u64 lh,.int .u64 ll,.string hd,.string nm,.int .i64 eh,.int .i64 el,.slice (some pa) en ec]] (YJ r2):=by
 exact vE
theorem aaL(p0 n0 c0 p1 n1 c1 p2 n2 c2 p3 n3 c3 p4 n4 c4 p5 n5 c5 p6 n6 c6 act lw lh ll hd nm eh el)(pa:Addr)(en ec:Nat)(op tw:Int)(tt tf XR alw alh all ahd anm aeh ael ap an ac dop dlw dlh dll dhd dnm deh del dp dn dc)(r2:Int)(w:World)(h0:0<en)(h1:1<en)(hn:((en:Int)==1)=false)(ma:Yg w pa [.int .u8 XR,.int .i64 alw,.int .u64 alh,.int .u64 all,.string ahd,.string anm,.int .i64 aeh,.int .i64 ael,.slice ap an ac])(md:Yg w ⟨pa.block,pa.off+9,none⟩ [.int .u8 dop,.int .i64 dlw,.int .u64 dlh,.int .u64 dll,.string dhd,.string dnm,.int .i64 deh,.int .i64 del,.slice dp dn dc])(o14:(op==14)=false)(o15:(op==15)=false)(ka:Yr Zx w 28 #[.agg #[.slice p0 n0 c0,.slice p1 n1 c1,.slice p2 n2 c2,.slice p3 n3 c3,.slice p4 n4 c4,.slice p5 n5 c5,.slice p6 n6 c6,.int .i64 act],.agg #[.int .u8 XR,.int .i64 alw,.int .u64 alh,.int .u64 all,.string ahd,.string anm,.int .i64 aeh,.int .i64 ael,.slice ap an ac]] (.returned (.agg #[.int .i64 tw,.bool tt,.bool tf])))(kd:Yr Zx w 28 #[.agg #[.slice p0 n0 c0,.slice p1 n1 c1,.slice p2 n2 c2,.slice p3 n3 c3,.slice p4 n4 c4,.slice p5 n5 c5,.slice p6 n6 c6,.int .i64 act],.agg #[.int .u8 dop,.int .i64 dlw,.int .u64 dlh,.int .u64 dll,.string dhd,.string dnm,.int .i64 deh,.int .i64 del,.slice dp dn dc]] (YJ r2)) :
  Yr Zx w 28 #[.agg #[.slice p0 n0 c0,.slice p1 n1 c1,.slice p2 n2 c2,.slice p3 n3 c3,.slice p4 n4 c4,.slice p5 n5 c5,.slice p6 n6 c6,.int .i64 act],.agg #[.int .u8 op,.int .i64 lw,.int .u64 lh,.int .u64 ll,.string hd,.string nm,.int .i64 eh,.int .i64 el,.slice (some pa) en ec]] (YJ r2):=by
 intro y0;have ka:=ka.up y0;have kd:=kd.up y0;have ma:=ma.plus y0;have md:=md.plus y0;obtain⟨V,hV⟩:=ZB (plus w y0);rw[hV]at ka kd ma md ⊢;clear hV;have ka':=Zf ka;have kd':=Zf kd;have ma':=Zf ma;have md':=Zf md;clear ka kd ma md;open Z renaming ajN→Jh in exact IR
theorem aaM(p0 n0 c0 p1 n1 c1 p2 n2 c2 p3 n3 c3 p4 n4 c4 p5 n5 c5 p6 n6 c6 act lw lh ll hd nm eh el)(pa:Addr)(en ec:Nat)(op tw:Int)(tt tf XR alw alh all ahd anm aeh ael ap an ac dop dlw dlh dll dhd dnm deh del dp dn dc)(r2 sw:Int)(st sf)(w:World)(h0:0<en)(h1:1<en)(hn:((en:Int)==1)=false)(ma:Yg w pa [.int .u8 XR,.int .i64 alw,.int .u64 alh,.int .u64 all,.string ahd,.string anm,.int .i64 aeh,.int .i64 ael,.slice ap an ac])(md:Yg w ⟨pa.block,pa.off+9,none⟩ [.int .u8 dop,.int .i64 dlw,.int .u64 dlh,.int .u64 dll,.string dhd,.string dnm,.int .i64 deh,.int .i64 del,.slice dp dn dc])(o14:(op==14)=false)(o15:(op==15)=false)(ka:Yr Zx w 28 #[.agg #[.slice p0 n0 c0,.slice p1 n1 c1,.slice p2 n2 c2,.slice p3 n3 c3,.slice p4 n4 c4,.slice p5 n5 c5,.slice p6 n6 c6,.int .i64 act],.agg #[.int .u8 XR,.int .i64 alw,.int .u64 alh,.int .u64 all,.string ahd,.string anm,.int .i64 aeh,.int .i64 ael,.slice ap an ac]] (.returned (.agg #[.int .i64 tw,.bool tt,.bool tf])))(kd:Yr Zx w 28 #[.agg #[.slice p0 n0 c0,.slice p1 n1 c1,.slice p2 n2 c2,.slice p3 n3 c3,.slice p4 n4 c4,.slice p5 n5 c5,.slice p6 n6 c6,.int .i64 act],.agg #[.int .u8 dop,.int .i64 dlw,.int .u64 dlh,.int .u64 dll,.string dhd,.string dnm,.int .i64 deh,.int .i64 del,.slice dp dn dc]] (.returned (.agg #[.int .i64 sw,.bool st,.bool sf])))(ko:Yr Zx w 51 #[.agg #[.int .u8 op,.int .i64 lw,.int .u64 lh,.int .u64 ll,.string hd,.string nm,.int .i64 eh,.int .i64 el,.slice (some pa) en ec],.agg #[.int .i64 tw,.bool tt,.bool tf],.agg #[.int .i64 sw,.bool st,.bool sf]] (YJ r2)) :
  Yr Zx w 28 #[.agg #[.slice p0 n0 c0,.slice p1 n1 c1,.slice p2 n2 c2,.slice p3 n3 c3,.slice p4 n4 c4,.slice p5 n5 c5,.slice p6 n6 c6,.int .i64 act],.agg #[.int .u8 op,.int .i64 lw,.int .u64 lh,.int .u64 ll,.string hd,.string nm,.int .i64 eh,.int .i64 el,.slice (some pa) en ec]] (YJ r2):=by
 open Z renaming afA→B0 in exact vy
theorem aaK(p0 n0 c0 p1 n1 c1 p2 n2 c2 p3 n3 c3 p4 n4 c4 p5 n5 c5 p6 n6 c6 act lw lh ll hd nm eh el)(pa:Addr)(en ec:Nat)(op tw:Int)(tt tf XR alw alh all ahd anm aeh ael ap an ac dop dlw dlh dll dhd dnm deh del dp dn dc sw st sf rw2 rt2 rf2)(w:World)(h0:0<en)(h1:1<en)(hn:((en:Int)==1)=false)(ma:Yg w pa [.int .u8 XR,.int .i64 alw,.int .u64 alh,.int .u64 all,.string ahd,.string anm,.int .i64 aeh,.int .i64 ael,.slice ap an ac])(md:Yg w ⟨pa.block,pa.off+9,none⟩ [.int .u8 dop,.int .i64 dlw,.int .u64 dlh,.int .u64 dll,.string dhd,.string dnm,.int .i64 deh,.int .i64 del,.slice dp dn dc])(o14:(op==14)=false)(o15:(op==15)=false)(ka:Yr Zx w 28 #[.agg #[.slice p0 n0 c0,.slice p1 n1 c1,.slice p2 n2 c2,.slice p3 n3 c3,.slice p4 n4 c4,.slice p5 n5 c5,.slice p6 n6 c6,.int .i64 act],.agg #[.int .u8 XR,.int .i64 alw,.int .u64 alh,.int .u64 all,.string ahd,.string anm,.int .i64 aeh,.int .i64 ael,.slice ap an ac]] (.returned (.agg #[.int .i64 tw,.bool tt,.bool tf])))(kd:Yr Zx w 28 #[.agg #[.slice p0 n0 c0,.slice p1 n1 c1,.slice p2 n2 c2,.slice p3 n3 c3,.slice p4 n4 c4,.slice p5 n5 c5,.slice p6 n6 c6,.int .i64 act],.agg #[.int .u8 dop,.int .i64 dlw,.int .u64 dlh,.int .u64 dll,.string dhd,.string dnm,.int .i64 deh,.int .i64 del,.slice dp dn dc]] (.returned (.agg #[.int .i64 sw,.bool st,.bool sf])))(ko:Yr Zx w 51 #[.agg #[.int .u8 op,.int .i64 lw,.int .u64 lh,.int .u64 ll,.string hd,.string nm,.int .i64 eh,.int .i64 el,.slice (some pa) en ec],.agg #[.int .i64 tw,.bool tt,.bool tf],.agg #[.int .i64 sw,.bool st,.bool sf]] (.returned (.agg #[.int .i64 rw2,.bool rt2,.bool rf2]))) :
  Yr Zx w 28 #[.agg #[.slice p0 n0 c0,.slice p1 n1 c1,.slice p2 n2 c2,.slice p3 n3 c3,.slice p4 n4 c4,.slice p5 n5 c5,.slice p6 n6 c6,.int .i64 act],.agg #[.int .u8 op,.int .i64 lw,.int .u64 lh,.int .u64 ll,.string hd,.string nm,.int .i64 eh,.int .i64 el,.slice (some pa) en ec]] (.returned (.agg #[.int .i64 rw2,.bool rt2,.bool rf2])):=by
 open Z renaming afB→B0 in exact vy
theorem QH{x:Int}(h1:-9223372036854775808≤x)(h2:x≤9223372036854775807):wrap64 x=x:=by unfold wrap64;omega
theorem CY{v:Value}:Yl 0 v=.returned v:=rfl
theorem VH{r:Int}{v:Value}(h:¬r=0):Yl r v=YJ r:=by rw[Yl,if_neg h]
theorem Mj(p:Pr)(hz:p.sz≤1048576)(hW:U8 p)(act:Int):∀(e:Ex) (n:Nat) (w:World),e.may n=true→p.In w→e.In w→e.wt≤1048576 →
  Yr Zx w 28 #[Rp p act,e.val] (Yl (e.ty p act).1 (e.ty p act).2.v):=by
 open Z renaming akq→AQ in exact uV
theorem oZ(v:Value)(w:World):(Instr.typeAssert (.iface 33 v) 20 33 true).run Zx w=.ok (.tuple #[v,.bool true]) w:=by
 exact vF
theorem o8(w:World):(Instr.typeAssert .nilIface 20 33 true).run Zx w=.ok (.tuple #[.int .i64 0,.bool false]) w:=by
 exact vF
theorem kE(p x t f d b:Value):(#[p]++(((((((Array.replicate 9 undef).setIfInBounds 3 x).setIfInBounds 4 t).setIfInBounds 2 t).setIfInBounds 5 f).setIfInBounds 6 b).setIfInBounds 0 d).setIfInBounds 1 b:Array Value)=#[p,d,b,t,x,t,f,b,undef,undef]:=by
 simp[Array.replicate]
theorem nW(n:Nat)(E)(older:List PanicEntry)(w:World)(u:Value)(hp:w.cell? ⟨n,0,none⟩=some u)(fp:∀o,w.frozen? ⟨n,o,none⟩=false) :
  CallsD Zx 32 #[.pointer (some ⟨n,0,none⟩)] (.panicking ({ v:=.iface 33 (.int .i64 E),recovered:=false } :: older)) w
   fun e u' w'=>e=.returned (.tuple #[])∧u'=.panicking ({ v:=.iface 33 (.int .i64 E),recovered:=true } :: older)∧w'=w.setCell ⟨n,0,none⟩ (.int .i64 E):=by
 have hta:=oZ (.int .i64 E);open Z renaming vG→AW in exact tg
theorem nX(n:Nat)(w:World) :
  CallsD Zx 32 #[.pointer (some ⟨n,0,none⟩)] .returning w fun e u' w'=>e=.returned (.tuple #[])∧u'=.returning∧w'=w:=by
 have hta:=o8;open Z renaming akF→AW in exact tg
theorem xu(w:World)(G:FuncId)(cap:Array Value)(hG:∀w,(callFunc G cap).run Zx w=.ok (.enter G cap) w)(r:Int)(T:World→Prop)(hC:Calls Zx G cap (w.alloc (.cells #[.int .i64 0] 33)) fun e w'=>e=Yl r (.tuple #[])∧T w'∧w'.cell? ⟨w.heap.size,0,none⟩=some (.int .i64 0)∧∀o,w'.frozen? ⟨w.heap.size,o,none⟩=false) :
  Calls Zx 18 #[.func (.func G) #[] cap] w fun e w'=>e=.returned (.int .i64 r)∧∃U,T U∧w'=U.setCell ⟨w.heap.size,0,none⟩ (.int .i64 r):=by
 open Z renaming ark→TU in exact T2
theorem gY(p0 n0 c0 p1 n1 c1 p2 n2 c2 p3 n3 c3 p4 n4 c4 p5 n5 c5 p6 n6 c6 act op lw lh ll hd nm eh el ep en ec)(E:Ending)(W:World)(ZL ZT Ys YQ:Nat)(hk:Calls Zx 28 #[.agg #[.slice p0 n0 c0,.slice p1 n1 c1,.slice p2 n2 c2,.slice p3 n3 c3,.slice p4 n4 c4,.slice p5 n5 c5,.slice p6 n6 c6,.int .i64 act],.agg #[.int .u8 op,.int .i64 lw,.int .u64 lh,.int .u64 ll,.string hd,.string nm,.int .i64 eh,.int .i64 el,.slice ep en ec]] W fun e w'=>e=E∧∃x,w'=plus W x)(a0:W.cell? ⟨ZL,0,none⟩=some (.slice p0 n0 c0))(a1:W.cell? ⟨ZL,1,none⟩=some (.slice p1 n1 c1))(a2:W.cell? ⟨ZL,2,none⟩=some (.slice p2 n2 c2))(a3:W.cell? ⟨ZL,3,none⟩=some (.slice p3 n3 c3))(a4:W.cell? ⟨ZL,4,none⟩=some (.slice p4 n4 c4))(a5:W.cell? ⟨ZL,5,none⟩=some (.slice p5 n5 c5))(a6:W.cell? ⟨ZL,6,none⟩=some (.slice p6 n6 c6))(b0:W.cell? ⟨ZT,0,none⟩=some (.int .i64 act))(d0:W.cell? ⟨Ys,0,none⟩=some (.int .u8 op))(d1:W.cell? ⟨Ys,1,none⟩=some (.int .i64 lw))(d2:W.cell? ⟨Ys,2,none⟩=some (.int .u64 lh))(d3:W.cell? ⟨Ys,3,none⟩=some (.int .u64 ll))(d4:W.cell? ⟨Ys,4,none⟩=some (.string hd))(d5:W.cell? ⟨Ys,5,none⟩=some (.string nm))(d6:W.cell? ⟨Ys,6,none⟩=some (.int .i64 eh))(d7:W.cell? ⟨Ys,7,none⟩=some (.int .i64 el))(d8:W.cell? ⟨Ys,8,none⟩=some (.slice ep en ec))(r0:W.cell? ⟨YQ,0,none⟩=some (.int .i64 0))(r1:W.cell? ⟨YQ,1,none⟩=some (.bool false))(r2:W.cell? ⟨YQ,2,none⟩=some (.bool false))(rf:∀o,W.frozen? ⟨YQ,o,none⟩=false)(r:Int)(t:Ty)(hE:E=Yl r t.v) :
  Calls Zx 27 #[.pointer (some ⟨ZL,0,none⟩),.pointer (some ⟨ZT,0,none⟩),.pointer (some ⟨Ys,0,none⟩),.pointer (some ⟨YQ,0,none⟩)] W
   fun e w'=>e=Yl r (.tuple #[])∧∃x,w'=if r=0 then (((plus W x).setCell ⟨YQ,0,none⟩ (.int .i64 t.w)).setCell ⟨YQ,1,none⟩ (.bool t.tr)).setCell ⟨YQ,2,none⟩ (.bool t.fr) else plus W x:=by
 subst hE;have SD:=Zf hk;have ZC:YQ<W.heap.size:=KA r0;have s0:=fun x=>(TI W x YQ 0 ZC).trans r0;have s1:=fun x=>(TI W x YQ 1 ZC).trans r1;have s2:=fun x=>(TI W x YQ 2 ZC).trans r2;have sf:=fun x o=>(Od W x YQ o ZC).trans (rf o);clear hk ZC r0 r1 r2 rf;go_enter func27,ntmps27;go_wp2_with fail;refine SD.out.mono ?_;rintro e w' ⟨rfl,x,rfl⟩;clear SD;have t0:=s0 x;have t1:=s1 x;have t2:=s2 x;have tf:=sf x;clear s0 s1 s2 sf;by_cases z:r=0
 ·subst z
  simp only[Yl,if_pos,Ty.v];go_wp2;go_end0;exact⟨rfl,x,rfl⟩
 ·rw[Yl,if_neg z]
  go_wp2;exact⟨rfl,(VH z).symm,x,rfl⟩
theorem aB(e:Ex)(w)(hm:e.may 16=true)(Ud:Kp Zx w 46 #[e.val] (.bool (e.may 16)))(g:Value)(r)(T:World→Prop)(hC:∀W,(∃z,W=plus w z)→Calls Zx 18 #[g] W fun e w'=>e=.returned (.int .i64 r)∧T w') :
  Calls Zx 26 #[e.val,g] w fun e w'=>e=.returned (.int .i64 r)∧T w':=by
 rw[hm]at Ud;have YY:=Zf hC;clear hC hm;obtain⟨op,⟨lw,lh,ll⟩,hd,nm,eh,el,ep,ec,eargs⟩:=e;simp only[Ex.val,Ex.cells,Ex.op,Ex.lit,Ex.head,Ex.name,Ex.hi,Ex.lo,Ex.p,Ex.args,Ex.cap]at Ud ⊢;obtain⟨M,hM⟩:=ZB eargs.length;rw[hM]at Ud ⊢;clear hM;have ND:=Zf Ud;clear Ud;go_enter func26,ntmps26;go_upto_region 1 with (fail)
 obtain⟨X,Y0,hX,⟨zX,ZE⟩,ca⟩:=YO w _ 45;rw[hX];have d0:=ca 0 _ rfl;have d1:=ca 1 _ rfl;have d2:=ca 2 _ rfl;have d3:=ca 3 _ rfl;have d4:=ca 4 _ rfl;have d5:=ca 5 _ rfl;have d6:=ca 6 _ rfl;have d7:=ca 7 _ rfl;have d8:=ca 8 _ rfl;have q:=Zf (ZK ZE ND.out);have hz:=Zf ZE;clear hX ca ZE ND;go_wp2_with fail;refine (q.out _).mono ?_;rintro r' w' ⟨rfl,x1,rfl⟩;clear q;go_wp2_with fail;refine (YY.out _ ?_).mono ?_
 ·rw[hz.out,ZD];exact⟨_,rfl⟩
 rintro r' w' ⟨rfl,hT⟩;have WB:=Zf hT;clear hT;go_wp2;go_ret;exact⟨rfl,WB.out⟩
end Go.Proofs.YtknmeggfokpbjaaGreat
