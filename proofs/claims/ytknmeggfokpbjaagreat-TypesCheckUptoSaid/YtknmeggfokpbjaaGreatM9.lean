/-
  WHAT IS PROVED HERE: a part of the proof (made narrower and merged by program; the parts: Hj Hk).
-/
import Derived.Test.YtknmeggfokpbjaaGreatM8
set_option maxRecDepth 100000
set_option maxHeartbeats 8000000
set_option linter.all false
namespace Go.Proofs.YtknmeggfokpbjaaGreat
open Z
open Go.RowKit Go.Proofs.Tryz
open Ending renaming returned→Zd
open Lib renaming hid→Zf
open Go.Proofs.Tryz renaming prog→Zx
open Value renaming bool→Zy
open Go.RowKit
theorem iJ(m1 m2 m3:Nat)(a0 a1 a2 a3 a4 a5 a6 fv fm is s0)(w:World)(hL:∀W z,W=plus w z→(Instr.lookup 114 (.map (some m2)) (.int .u8 a0) true).run Zx W=.ok (.tuple #[.agg #[.bool fv,.bool fm],.bool is]) W)(h0:Kp Zx w 224 #[.agg #[.bool fv,.bool fm],.agg #[.int .u8 a0,.int .i64 a1,.int .u64 a2,.int .u64 a3,.int .i64 a4,.int .u64 a5,.int .u64 a6]] (.bool s0)) :
  Kp Zx w 215 #[.agg #[.map (some m1),.map (some m2),.map (some m3)],.agg #[.int .u8 a0,.int .i64 a1,.int .u64 a2,.int .u64 a3,.int .i64 a4,.int .u64 a5,.int .u64 a6]] (.bool (is&&s0)):=by
 intro y0;have h0:=h0.up y0;have hL:∀W z,W=plus (plus w y0) z→(Instr.lookup 114 (.map (some m2)) (.int .u8 a0) true).run Zx W=.ok (.tuple #[.agg #[.bool fv,.bool fm],.bool is]) W:=fun W z hW=>hL W _ (hW.trans (ZD _ _ _));obtain⟨V,hV⟩:=ZB (plus w y0);rw[hV]at h0 hL ⊢;clear hV;have hL2:∀a b,(Instr.lookup 114 (.map (some m2)) (.int .u8 a0) true).run Zx ((V.alloc a).alloc b)=.ok (.tuple #[.agg #[.bool fv,.bool fm],.bool is]) ((V.alloc a).alloc b):=fun a b=>by
  exact Cd
 clear hL;obtain⟨R,hR⟩:=ZB (is&&s0);rw[hR];cases is
 case false =>
  have hF:=Zf hR;clear hR h0;go_enter func215,ntmps215;exact wq
 case true =>
  cases s0
  case false =>
   exact wB
  case true =>
   exact wB
theorem iL(m1 m2 m3:Nat)(a0 a1 a2 a3 a4 a5 a6 a7 a8 a9 a10 a11p a11n a11c a12p a12n a12c a13p a13n a13c fh fn fe fk is s0 s1 s2)(w:World)(hL:∀W z,W=plus w z→(Instr.lookup 115 (.map (some m3)) (.int .u8 a0) true).run Zx W=.ok (.tuple #[.agg #[.int .u8 fh,.int .u8 fn,.bool fe,.bool fk],.bool is]) W)(h0:Kp Zx w 195 #[.agg #[.int .u8 fh,.int .u8 fn,.bool fe,.bool fk],.agg #[.int .u8 a0,.string a1,.string a2,.int .u8 a3,.int .i64 a4,.int .u64 a5,.int .u64 a6,.string a7,.string a8,.int .i64 a9,.int .i64 a10,.slice a11p a11n a11c,.slice a12p a12n a12c,.slice a13p a13n a13c]] (.bool s0))(h1:Kp Zx w 196 #[.agg #[.int .u8 a3,.int .i64 a4,.int .u64 a5,.int .u64 a6,.string a7,.string a8,.int .i64 a9,.int .i64 a10,.slice a11p a11n a11c],.agg #[.int .u8 0,.int .i64 0,.int .u64 0,.int .u64 0,.string ⟨#[]⟩,.string ⟨#[]⟩,.int .i64 0,.int .i64 0,.slice none 0 0]] (.bool s1))(h2:Kp Zx w 124 #[.agg #[.map (some m1),.map (some m2),.map (some m3)],.agg #[.int .u8 a3,.int .i64 a4,.int .u64 a5,.int .u64 a6,.string a7,.string a8,.int .i64 a9,.int .i64 a10,.slice a11p a11n a11c]] (.bool s2)) :
  Kp Zx w 140 #[.agg #[.map (some m1),.map (some m2),.map (some m3)],.agg #[.int .u8 a0,.string a1,.string a2,.int .u8 a3,.int .i64 a4,.int .u64 a5,.int .u64 a6,.string a7,.string a8,.int .i64 a9,.int .i64 a10,.slice a11p a11n a11c,.slice a12p a12n a12c,.slice a13p a13n a13c]] (.bool (is&&(s0&&(if fe then s2 else s1)))):=by
 intro y0;have h0:=h0.up y0;have h1:=h1.up y0;have h2:=h2.up y0;have hL:∀W z,W=plus (plus w y0) z→(Instr.lookup 115 (.map (some m3)) (.int .u8 a0) true).run Zx W=.ok (.tuple #[.agg #[.int .u8 fh,.int .u8 fn,.bool fe,.bool fk],.bool is]) W:=fun W z hW=>hL W _ (hW.trans (ZD _ _ _));obtain⟨V,hV⟩:=ZB (plus w y0);rw[hV]at h0 h1 h2 hL ⊢;clear hV;have hL2:∀a b,(Instr.lookup 115 (.map (some m3)) (.int .u8 a0) true).run Zx ((V.alloc a).alloc b)=.ok (.tuple #[.agg #[.int .u8 fh,.int .u8 fn,.bool fe,.bool fk],.bool is]) ((V.alloc a).alloc b):=fun a b=>by
  exact Cd
 clear hL;obtain⟨R,hR⟩:=ZB (is&&(s0&&(if fe then s2 else s1)));rw[hR];cases is
 case false =>
  have hF:=Zf hR;clear hR h0 h1 h2;go_enter func140,ntmps140;exact wq
 case true =>
  cases s0
  case false =>
   have hF:=Zf hR;clear hR h1 h2;have h0:=Zf h0;open Z renaming wA→Fb in exact D6
  case true =>
   cases fe
   case false =>
    cases s1
    case false =>
     exact wE
    case true =>
     exact wE
   case true =>
    cases s2
    case false =>
     exact wG
    case true =>
     exact wG
theorem aaq(m1 m2 m3:Nat)(a0 a1p a1n a1c a2)(fb sb:Nat)(kp kn kc s0)(w:World)(hf0:w.cell? ⟨fb,0,none⟩=some (.map (some m1)))(UO:w.cell? ⟨fb,1,none⟩=some (.map (some m2)))(Uw:w.cell? ⟨fb,2,none⟩=some (.map (some m3)))(hs:w.cell? ⟨sb,3,none⟩=some (.slice kp kn kc))(h0:Kp Zx w 193 #[.agg #[.map (some m1),.map (some m2),.map (some m3)],.agg #[.bool a0,.slice a1p a1n a1c,.string a2],.int .i64 (kn:Int)] (.bool s0)) :
  Kp Zx w 192 #[.agg #[.bool a0,.slice a1p a1n a1c,.string a2],.pointer (some ⟨fb,0,none⟩),.pointer (some ⟨sb,0,none⟩)] (.bool (s0)):=by
 intro y0;have h0:=h0.up y0;have hf0:=ZS hf0 y0;have UO:=ZS UO y0;have Uw:=ZS Uw y0;have hs:=ZS hs y0;obtain⟨V,hV⟩:=ZB (plus w y0);rw[hV]at h0 hf0 UO Uw hs ⊢;clear hV;have hf0x:=fun a=>YG hf0 a;have hf1x:=fun a=>YG UO a;have hf2x:=fun a=>YG Uw a;have hsx:=fun a=>YG hs a;obtain⟨R,hR⟩:=ZB (s0);rw[hR];have hF:=Zf (show (s0)=R by first|exact hR|(rw[←hR];simp));clear hR;have h0:=Zf h0;go_enter func192,ntmps192;go_wp2_with fail;obtain⟨W,yy,hW,⟨z,hz⟩,cb0⟩:=YO V _ 70;exact pt
theorem aat(m1 m2 m3:Nat)(a0 a1p a1n a1c)(a2:ByteArray)(a3p a3n a3c a4p a4n a4c s0 w)(ht:(a2.toList==[])=false)(h0:Kp Zx w 190 #[.string a2] (.bool s0)) :
  Kp Zx w 132 #[.agg #[.map (some m1),.map (some m2),.map (some m3)],.agg #[.string a0,.slice a1p a1n a1c,.string a2,.slice a3p a3n a3c,.slice a4p a4n a4c]] (.bool (s0&&(((a3n:Int)==0)&&((a4n:Int)==0)))):=by
 open Z renaming aiX→SK in exact SX
theorem aas(m1 m2 m3:Nat)(a0 a1p a1n a1c)(a2:ByteArray)(a3p a3n a3c a4p a4n a4c s0 s1 w)(ht:(a2.toList==[])=true)(h0:Kp Zx w 188 #[.slice a3p a3n a3c,.int .i64 1,.int .i64 4,.func (.func 124) #[.agg #[.map (some m1),.map (some m2),.map (some m3)]] #[]] (.bool s0))(hE:∀W z fb sb,W=plus w z→(∀j v,(#[.map (some m1),.map (some m2),.map (some m3)]:Array Value)[j]?=some v→W.cell? ⟨fb,j,none⟩=some v)→W.cell? ⟨sb,3,none⟩=some (.slice a3p a3n a3c)→Kp Zx W 191 #[.slice a4p a4n a4c,.int .i64 1,.int .i64 16,.func (.func 192) #[] #[.pointer (some ⟨fb,0,none⟩),.pointer (some ⟨sb,0,none⟩)]] (.bool s1)) :
  Kp Zx w 132 #[.agg #[.map (some m1),.map (some m2),.map (some m3)],.agg #[.string a0,.slice a1p a1n a1c,.string a2,.slice a3p a3n a3c,.slice a4p a4n a4c]] (.bool (s0&&s1)):=by
 intro y0;have h0:=h0.up y0;have hE:∀W z fb sb,W=plus (plus w y0) z→(∀j v,(#[.map (some m1),.map (some m2),.map (some m3)]:Array Value)[j]?=some v→W.cell? ⟨fb,j,none⟩=some v)→W.cell? ⟨sb,3,none⟩=some (.slice a3p a3n a3c)→Kp Zx W 191 #[.slice a4p a4n a4c,.int .i64 1,.int .i64 16,.func (.func 192) #[] #[.pointer (some ⟨fb,0,none⟩),.pointer (some ⟨sb,0,none⟩)]] (.bool s1):=fun W z fb sb hW=>hE W _ fb sb (hW.trans (ZD _ _ _));obtain⟨V,hV⟩:=ZB (plus w y0);rw[hV]at h0 hE ⊢;clear hV;open Z renaming arg→TU in exact T2
def KL(fb c:Nat):Value:=.func (.func 137) #[] #[.pointer (some ⟨fb,0,none⟩),.pointer (some ⟨c,0,none⟩)]
theorem af(m1 m2 m3:Nat)(a0 a1 a2 a3 a4 a5 a6 a7 a8 a9 a10 a11p a11n a11c a12p a12n a12c a13p a13n a13c)(fb c rc:Nat)(k r:Int)(s0 s1 s2)(w:World)(hf0:w.cell? ⟨fb,0,none⟩=some (.map (some m1)))(UO:w.cell? ⟨fb,1,none⟩=some (.map (some m2)))(Uw:w.cell? ⟨fb,2,none⟩=some (.map (some m3)))(hc:w.cell? ⟨c,0,none⟩=some (.func (.func 137) #[] #[.pointer (some ⟨fb,0,none⟩),.pointer (some ⟨c,0,none⟩)]))(hr:w.cell? ⟨rc,0,none⟩=some (.int .i64 k))(hk:wrap64 (k-1)=r)(h0:Kp Zx w 140 #[.agg #[.map (some m1),.map (some m2),.map (some m3)],.agg #[.int .u8 a0,.string a1,.string a2,.int .u8 a3,.int .i64 a4,.int .u64 a5,.int .u64 a6,.string a7,.string a8,.int .i64 a9,.int .i64 a10,.slice a11p a11n a11c,.slice a12p a12n a12c,.slice a13p a13n a13c]] (.bool s0))(h1:Kp Zx w 137 #[.slice a12p a12n a12c,.int .i64 r,.pointer (some ⟨fb,0,none⟩),.pointer (some ⟨c,0,none⟩)] (.bool s1))(h2:Kp Zx w 137 #[.slice a13p a13n a13c,.int .i64 r,.pointer (some ⟨fb,0,none⟩),.pointer (some ⟨c,0,none⟩)] (.bool s2)) :
  Kp Zx w 139 #[.agg #[.int .u8 a0,.string a1,.string a2,.int .u8 a3,.int .i64 a4,.int .u64 a5,.int .u64 a6,.string a7,.string a8,.int .i64 a9,.int .i64 a10,.slice a11p a11n a11c,.slice a12p a12n a12c,.slice a13p a13n a13c],.pointer (some ⟨fb,0,none⟩),.pointer (some ⟨c,0,none⟩),.pointer (some ⟨rc,0,none⟩)] (.bool (((s0)&&((s1)&&(s2))))):=by
 intro y0;have h0:=h0.up y0;have h1:=h1.up y0;have h2:=h2.up y0;have hf0:=ZS hf0 y0;have UO:=ZS UO y0;have Uw:=ZS Uw y0;have hc:=ZS hc y0;have hr:=ZS hr y0;obtain⟨V,hV⟩:=ZB (plus w y0);rw[hV]at h0 h1 h2 hf0 UO Uw hc hr ⊢;clear hV;have hf0x:=fun a=>YG hf0 a;have hf1x:=fun a=>YG UO a;have hf2x:=fun a=>YG Uw a;have YZ:=fun a=>YG hc a;have hrx:=fun a=>YG hr a;obtain⟨R,hR⟩:=ZB (((s0)&&((s1)&&(s2))));rw[hR];cases s0
 case false =>
  open Z renaming adg→Xy in exact Xz
 case true =>
  cases s1
  case false =>
   open Z renaming adh→Xy in exact Xz
  case true =>
   cases s2
   case false =>
    open Z renaming wJ→Xy in exact Xz
   case true =>
    open Z renaming wJ→RP in exact Qa
theorem nA(lp ln lc)(fb c:Nat)(w):Kp Zx w 137 #[.slice lp ln lc,.int .i64 0,.pointer (some ⟨fb,0,none⟩),.pointer (some ⟨c,0,none⟩)] (.bool ((ln:Int)==0)):=by
 intro y0;obtain⟨V,hV⟩:=ZB (plus w y0);rw[hV];clear hV;go_enter func137,ntmps137;go_wp2_with fail;go_ret;exact⟨rfl,MQ _ _⟩
theorem nB(lp ln lc)(fb c:Nat)(k:Int)(s1)(w:World)(hk:(k==0)=false)(hE:∀W z rc,W=plus w z→W.cell? ⟨rc,0,none⟩=some (.int .i64 k)→Kp Zx W 138 #[.slice lp ln lc,.int .i64 0,.int .i64 32,.func (.func 139) #[] #[.pointer (some ⟨fb,0,none⟩),.pointer (some ⟨c,0,none⟩),.pointer (some ⟨rc,0,none⟩)]] (.bool s1)) :
  Kp Zx w 137 #[.slice lp ln lc,.int .i64 k,.pointer (some ⟨fb,0,none⟩),.pointer (some ⟨c,0,none⟩)] (.bool s1):=by
 intro y0;have hE:∀W z rc,W=plus (plus w y0) z→W.cell? ⟨rc,0,none⟩=some (.int .i64 k)→Kp Zx W 138 #[.slice lp ln lc,.int .i64 0,.int .i64 32,.func (.func 139) #[] #[.pointer (some ⟨fb,0,none⟩),.pointer (some ⟨c,0,none⟩),.pointer (some ⟨rc,0,none⟩)]] (.bool s1):=fun W z rc hW=>hE W _ rc (hW.trans (ZD _ _ _));obtain⟨V,hV⟩:=ZB (plus w y0);rw[hV]at hE ⊢;clear hV;open Z renaming arh→TU in exact T2
theorem nC(m1 m2 m3:Nat)(lp ln lc s1)(w:World)(hE:∀W z fb c,W=plus w z→(∀j v,(#[.map (some m1),.map (some m2),.map (some m3)]:Array Value)[j]?=some v→W.cell? ⟨fb,j,none⟩=some v)→W.cell? ⟨c,0,none⟩=some (KL fb c)→Kp Zx W 137 #[.slice lp ln lc,.int .i64 8,.pointer (some ⟨fb,0,none⟩),.pointer (some ⟨c,0,none⟩)] (.bool s1)) :
  Kp Zx w 63 #[.agg #[.map (some m1),.map (some m2),.map (some m3)],.slice lp ln lc] (.bool s1):=by
 intro y0;have hE:∀W z fb c,W=plus (plus w y0) z→(∀j v,(#[.map (some m1),.map (some m2),.map (some m3)]:Array Value)[j]?=some v→W.cell? ⟨fb,j,none⟩=some v)→W.cell? ⟨c,0,none⟩=some (KL fb c)→Kp Zx W 137 #[.slice lp ln lc,.int .i64 8,.pointer (some ⟨fb,0,none⟩),.pointer (some ⟨c,0,none⟩)] (.bool s1):=fun W z fb c hW=>hE W _ fb c (hW.trans (ZD _ _ _));obtain⟨V,hV⟩:=ZB (plus w y0);rw[hV]at hE ⊢;clear hV;open Z renaming ari→TU in exact T2
end Go.Proofs.YtknmeggfokpbjaaGreat
