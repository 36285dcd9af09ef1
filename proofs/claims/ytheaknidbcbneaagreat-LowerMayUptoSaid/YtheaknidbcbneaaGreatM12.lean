/-
  WHAT IS PROVED HERE: a part of the proof (made narrower and merged by program; the parts: Lsa).
-/
import Derived.Test.YtheaknidbcbneaaGreatM11
set_option maxRecDepth 100000
set_option maxHeartbeats 8000000
set_option linter.all false
namespace Go.Proofs.YtheaknidbcbneaaGreat
open Go.RowKit Go.Proofs.Tryz
open Below renaming refl→Zc
open Lib renaming hid→Zg
open Go.Proofs.Tryz renaming prog→Zr
open Go.RowKit
def Ww(W:World)(f:FuncId)(args:Array Value)(l:List Nd):Prop:=∀X,Below W.heap.size W X→Calls Zr f args X fun e w'=>∃v,e=.returned v∧(∃z,w'=plus X z)∧Y7 w' X.heap.size v l
theorem Ww.grow{W V:World}{f:FuncId}{args:Array Value}{l:List Nd}(h:Ww W f args l)(hB:Below W.heap.size W V):Ww V f args l:=fun X hX=>h X (hB.trans (hX.mono hB.size))
theorem Qz(x:Nd)(p:Option Addr)(n c:Nat)(parts:List (Sl Nd))(w:World)(Z1:Z2 w 1 YY p parts)(hn:parts.length=n)(hk:∀x∈parts,Z2 w 6 Nd.cells x.p x.l)(hb:(Y9 parts).length≤1048576)(XG:n≤1048576) :
  Ww w 65 #[.agg #[.int .u8 x.op,.int .i64 x.w,.int .i64 x.a,.int .i64 x.b,.int .u64 x.v.h,.int .u64 x.v.l],.slice p n c] (Y9 parts++[x]):=fun X hX=>by
 refine (J4 x p n c parts X (V3 Z1 hX) hn (fun s hs=>V3 (hk s hs) hX) hb XG).mono ?_;rintro e w' ⟨v,he,ho,hB⟩;exact⟨v,he,ZS hB,ho⟩
theorem FW(x:Nd)(w:World):Ww w 65 #[.agg #[.int .u8 x.op,.int .i64 x.w,.int .i64 x.a,.int .i64 x.b,.int .u64 x.v.h,.int .u64 x.v.l],.slice none 0 0] [x] :=
 Qz x none 0 0 [] w (fun i y hy=>by simp at hy) rfl (fun y hy=>by cases hy) (by simp) (by decide)
theorem Ww.at{W:World}{f:FuncId}{args:Array Value}{l:List Nd}(h:Ww W f args l):Calls Zr f args W fun e w'=>∃v,e=.returned v∧(∃z,w'=plus W z)∧Y7 w' W.heap.size v l:=h W (Zc _ _)
theorem PG(q0p q0n q0c q1p q1n q1c q2p q2n q2c q3p q3n q3c q4p q4n q4c q5p q5n q5c q6p q6n q6c act free)(r:Nat)(op lw lh ll eh el hd nm ap ac)(x:Nd)(w:World)(hL:∀X,Below w.heap.size w X→Calls Zr 66 #[.agg #[.slice q0p q0n q0c,.slice q1p q1n q1c,.slice q2p q2n q2c,.slice q3p q3n q3c,.slice q4p q4n q4c,.slice q5p q5n q5c,.slice q6p q6n q6c,.int .i64 act,.map (some r)],.agg #[.int .u8 op,.int .i64 lw,.int .u64 lh,.int .u64 ll,.string hd,.string nm,.int .i64 eh,.int .i64 el,.slice ap 0 ac],.int .i64 free] X fun e w'=>e=.returned (.agg #[.int .u8 x.op,.int .i64 x.w,.int .i64 x.a,.int .i64 x.b,.int .u64 x.v.h,.int .u64 x.v.l])∧∃z,w'=plus X z) :
  Ww w 37 #[.agg #[.slice q0p q0n q0c,.slice q1p q1n q1c,.slice q2p q2n q2c,.slice q3p q3n q3c,.slice q4p q4n q4c,.slice q5p q5n q5c,.slice q6p q6n q6c,.int .i64 act,.map (some r)],.agg #[.int .u8 op,.int .i64 lw,.int .u64 lh,.int .u64 ll,.string hd,.string nm,.int .i64 eh,.int .i64 el,.slice ap 0 ac],.int .i64 free] [x]:=by
 intro V hV;obtain⟨W,yy,hW,⟨z,hz⟩,cb0,cb1⟩:=ZF V #[.slice q0p q0n q0c,.slice q1p q1n q1c,.slice q2p q2n q2c,.slice q3p q3n q3c,.slice q4p q4n q4c,.slice q5p q5n q5c,.slice q6p q6n q6c,.int .i64 act,.map (some r)] #[.int .u8 op,.int .i64 lw,.int .u64 lh,.int .u64 ll,.string hd,.string nm,.int .i64 eh,.int .i64 el,.slice ap 0 ac] 106 65;have c0_0:=cb0 0 _ rfl;have c0_1:=cb0 1 _ rfl;have c0_2:=cb0 2 _ rfl;have c0_3:=cb0 3 _ rfl;have c0_4:=cb0 4 _ rfl;have c0_5:=cb0 5 _ rfl;have c0_6:=cb0 6 _ rfl;have c0_7:=cb0 7 _ rfl;have c0_8:=cb0 8 _ rfl;have c1_0:=cb1 0 _ rfl;have c1_1:=cb1 1 _ rfl;have c1_2:=cb1 2 _ rfl;have c1_3:=cb1 3 _ rfl;have c1_4:=cb1 4 _ rfl;have c1_5:=cb1 5 _ rfl;have c1_6:=cb1 6 _ rfl;have c1_7:=cb1 7 _ rfl;have c1_8:=cb1 8 _ rfl;have ZY:Below V.heap.size V (Go.Proofs.YtheaknidbcbneaaGreat.plus W yy):=by rw[hz,Zx];exact Z9 V _
 have qL:=Zg (hL (Go.Proofs.YtheaknidbcbneaaGreat.plus W yy) (hV.trans (ZY.mono hV.size)));have qW:=Zg (FW x V);have ZH:=Zg hW;have YG:=Zg ZY;clear hL hW hz cb0 cb1 ZY hV;obtain⟨xo,xw,xa,xb,⟨xh,xl⟩⟩:=x;go_enter func37,ntmps37;go_upto_region 1 with (fail)
 rw[ZH.out];go_wp2_with fail;refine qL.out.mono ?_;rintro e w' ⟨rfl,y1,rfl⟩;have Xq:=Zg (YG.out.trans ((Z9 (Go.Proofs.YtheaknidbcbneaaGreat.plus W yy) y1).mono YG.out.size));clear ZH YG;generalize Go.Proofs.YtheaknidbcbneaaGreat.plus (Go.Proofs.YtheaknidbcbneaaGreat.plus W yy) y1=X at Xq ⊢;go_wp2_with fail;refine (qW.out X Xq.out).mono ?_;rintro e w' ⟨v,rfl,⟨y2,rfl⟩,ho⟩;have hF:=Zg (ho.lower Xq.out.size);have hE:=Zg (Xq.out.trans ((Z9 X y2).mono Xq.out.size));clear ho;go_wp2_with fail;go_ret;exact⟨v,rfl,ZS hE.out,hF.out⟩
theorem JU(s:Sl Nd)(w:World)(hr:Z2 w 6 Nd.cells s.p s.l)(hn:s.l.length≤1048575):Ww w 119 #[s.v] (s.l++[⟨7,1,0,0,⟨0,0⟩⟩]):=by
 intro V hV;have hR:=V3 hr hV;obtain⟨p,c,l⟩:=s;simp only[Sl.v]at hR hn ⊢;obtain⟨n,hln⟩:=Zv l.length;rw[hln]at hn ⊢;obtain⟨W,yy,hW,⟨z,hz⟩,cb0⟩:=Ya V #[.slice p n c] 35;have ZY:Below V.heap.size V (Go.Proofs.YtheaknidbcbneaaGreat.plus W yy):=by rw[hz,Zx];exact Z9 V _
 have Z1:Z2 (Go.Proofs.YtheaknidbcbneaaGreat.plus W yy) 1 YY (some ⟨V.heap.size,0,none⟩) [(⟨p,c,l⟩:Sl Nd)]:=by
  intro i x hx;match i,hx with
  | 0,hx =>
   obtain rfl:=Option.some.inj hx;refine⟨_,rfl,fun j u hu=>?_⟩;match j,hu with
   | 0,hu =>
    obtain rfl:=Option.some.inj hu;rw[Addr.add_lit,Addr.add_lit];simp only[Sl.v,hln];exact cb0 0 _ rfl yy
 have qW:=Zg (Qz ⟨7,1,0,0,⟨0,0⟩⟩ (some ⟨V.heap.size,0,none⟩) 1 1 [(⟨p,c,l⟩:Sl Nd)] _ Z1 rfl (fun y hy=>by
  obtain rfl:=List.mem_singleton.1 hy;exact V3 hR ZY) (by simp[Y9];omega) (by decide)).at
 rw[show Y9 [(⟨p,c,l⟩:Sl Nd)]=l by simp[Y9]]at qW;have ZH:=Zg hW;have YG:=Zg ZY;clear hW hz cb0 ZY hV Z1 hR hr hn hln;go_enter func119,ntmps119;go_wp2_with fail;rw[ZH.out];refine qW.out.mono ?_;rintro e w' ⟨v,rfl,⟨y2,rfl⟩,ho⟩;have hF:=Zg (ho.lower YG.out.size);have hE:=Zg (YG.out.trans ((Z9 _ y2).mono YG.out.size));clear ho;go_wp2_with fail;go_ret;exact⟨v,rfl,ZS hE.out,hF.out⟩
end Go.Proofs.YtheaknidbcbneaaGreat
