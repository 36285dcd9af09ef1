/-
  WHAT IS PROVED HERE: a part of the proof (made narrower and merged by program; the parts: Lsc Za Zb GA Fa Fb Ff Sf GE Zc).
-/
import Derived.Deep.Cut
import Derived.Deep.DeepCutAuto
import Derived.Test.YtheaknidbcbneaaGreatM17
import Derived.Test.YtheaknidbcbneaaGreatM4
import Derived.Test.YtheaknidbcbneaaGreatM3
set_option maxRecDepth 100000
set_option maxHeartbeats 8000000
set_option linter.all false
namespace Go.Proofs.YtheaknidbcbneaaGreat
open Go.RowKit Go.Proofs.Tryz
open Below renaming refl→Zc
open Ending renaming returned→Zf
open Lib renaming hid→Zg
open List renaming drop_of_length_le→Zh,getElem?_eq_some_iff→Zj,mem_of_getElem?→Zl
open Nat renaming le_refl→Zp,zero_le→Zq
open Go.Proofs.Tryz renaming prog→Zr
open Value renaming int→Zt
open Go.RowKit
theorem Lf(X:World)(cs:Array Value)(t:TypeId)(o:Nat)(z:ZA):(plus (X.alloc (.cells cs t)).drew z).frozen? ⟨X.heap.size,o,none⟩=false:=by
 rw[TX _ _ _ _ (by simp)];exact Vm X cs t _ o rfl
theorem Ms(X:World)(cs:Array Value)(t:TypeId)(z:ZA)(o:Nat)(v:Value)(h:cs[o]?=some v):(plus (X.alloc (.cells cs t)).drew z).cell? ⟨X.heap.size,o,none⟩=some v:=by
 rw[YO _ _ _ _ (by simp)];exact (Z4 X cs t _ o rfl).trans h
theorem Yx{W U:World}(h:Below W.heap.size W U){a:Addr}{v:Value}(hc:W.cell? a=some v):U.cell? a=some v:=(h.cell (p:=a) (World.block_lt_of_cell? W a hc)).trans hc
theorem U6{W X:World}(h:Below W.heap.size W X){z:ZA}:Below W.heap.size W (plus X z):=h.trans ((Z9 X z).mono h.size)
structure UA (V W:World) (b:Nat) (x:Nd):Prop where
 grown:Below V.heap.size V W
 ge:V.heap.size≤b
 heap:W.heap[b]?=some (.cells #[.int .u8 x.op,.int .i64 x.w,.int .i64 x.a,.int .i64 x.b,.int .u64 x.v.h,.int .u64 x.v.l] 79 (0,0))
theorem UA.cells{V W:World}{b:Nat}{x:Nd}(h:UA V W b x){j:Nat}{v:Value}(hj:(#[.int .u8 x.op,.int .i64 x.w,.int .i64 x.a,.int .i64 x.b,.int .u64 x.v.h,.int .u64 x.v.l]:Array Value)[j]?=some v):W.cell? ⟨b,j,none⟩=some v:=(cell_of_row W b j _ _ _ h.heap).trans hj
theorem UA.fz{V W:World}{b:Nat}{x:Nd}(h:UA V W b x)(o:Nat):W.frozen? ⟨b,o,none⟩=false:=by
 have:=h.heap;simp[World.frozen?,this]
theorem Il{X Y:World}(hY:Below X.heap.size X Y)(x:Nd):UA X (Y.alloc (.cells #[.int .u8 x.op,.int .i64 x.w,.int .i64 x.a,.int .i64 x.b,.int .u64 x.v.h,.int .u64 x.v.l] 79)) Y.heap.size x :=
 ⟨hY.alloc hY.size _,hY.size,heap_alloc_new Y _⟩
theorem Im(X:World)(y:ZA)(x:Nd):UA X (((((((plus (X.alloc (.cells #[.int .u8 0,.int .i64 0,.int .i64 0,.int .i64 0,.int .u64 0,.int .u64 0] 79)).drew y).setCell ⟨X.heap.size,0,none⟩ (.int .u8 x.op)).setCell ⟨X.heap.size,1,none⟩ (.int .i64 x.w)).setCell ⟨X.heap.size,2,none⟩ (.int .i64 x.a)).setCell ⟨X.heap.size,3,none⟩ (.int .i64 x.b)).setCell ⟨X.heap.size,4,none⟩ (.int .u64 x.v.h)).setCell ⟨X.heap.size,5,none⟩ (.int .u64 x.v.l)) X.heap.size x:=by
 have h0:(plus (X.alloc (.cells #[.int .u8 0,.int .i64 0,.int .i64 0,.int .i64 0,.int .u64 0,.int .u64 0] 79)).drew y).heap[X.heap.size]?=some (.cells #[.int .u8 0,.int .i64 0,.int .i64 0,.int .i64 0,.int .u64 0,.int .u64 0] 79 (0,0)):=by
  rw[(Z9 _ y).block _ (by simp)];exact heap_alloc_new X _
 have h1:=heap_setCell_same _ _ 0 _ _ (.int .u8 x.op) h0;have h2:=heap_setCell_same _ _ 1 _ _ (.int .i64 x.w) h1;have h3:=heap_setCell_same _ _ 2 _ _ (.int .i64 x.a) h2;have h4:=heap_setCell_same _ _ 3 _ _ (.int .i64 x.b) h3;have h5:=heap_setCell_same _ _ 4 _ _ (.int .u64 x.v.h) h4;have h6:=heap_setCell_same _ _ 5 _ _ (.int .u64 x.v.l) h5;refine⟨?_,Zp _,h6⟩;have hB:Below X.heap.size X (plus (X.alloc (.cells #[.int .u8 0,.int .i64 0,.int .i64 0,.int .i64 0,.int .u64 0,.int .u64 0] 79)).drew y):=(Wy ((Zc X.heap.size X).alloc (Zp _) _)).trans ((Z9 _ y).mono (by simp));exact (((((hB.setCell (Zp _) _).setCell (Zp _) _).setCell (Zp _) _).setCell (Zp _) _).setCell (Zp _) _).setCell (Zp _) _
theorem JE(q0p q0n q0c q1p q1n q1c q2p q2n q2c q3p q3n q3c q4p q4n q4c q5p q5n q5c q6p q6n q6c act)(r:Nat)(elw elh ell eeh eel ehd enm)(pb po eac:Nat)(xop xlw xlh xll xeh xel xhd xnm xap xan xac yop ylw ylh yll yeh yel yhd ynm yap yan yac)(l1 l2:List Nd)(w:World)(hm:Yf w r (Xz 26))(hX:ZG w ⟨pb,po,none⟩ [.int .u8 xop,.int .i64 xlw,.int .u64 xlh,.int .u64 xll,.string xhd,.string xnm,.int .i64 xeh,.int .i64 xel,.slice xap xan xac])(hY:ZG w ⟨pb,po+9,none⟩ [.int .u8 yop,.int .i64 ylw,.int .u64 ylh,.int .u64 yll,.string yhd,.string ynm,.int .i64 yeh,.int .i64 yel,.slice yap yan yac])(h1:Ry w 118 #[.agg #[.slice q0p q0n q0c,.slice q1p q1n q1c,.slice q2p q2n q2c,.slice q3p q3n q3c,.slice q4p q4n q4c,.slice q5p q5n q5c,.slice q6p q6n q6c,.int .i64 act,.map (some r)],.agg #[.int .u8 xop,.int .i64 xlw,.int .u64 xlh,.int .u64 xll,.string xhd,.string xnm,.int .i64 xeh,.int .i64 xel,.slice xap xan xac],.agg #[.int .u8 yop,.int .i64 ylw,.int .u64 ylh,.int .u64 yll,.string yhd,.string ynm,.int .i64 yeh,.int .i64 yel,.slice yap yan yac]] l1 l2)(h0:l1≠[])(hb:l1.length+l2.length≤1048000) :
  Ww w 69 #[.agg #[.slice q0p q0n q0c,.slice q1p q1n q1c,.slice q2p q2n q2c,.slice q3p q3n q3c,.slice q4p q4n q4c,.slice q5p q5n q5c,.slice q6p q6n q6c,.int .i64 act,.map (some r)],.agg #[.int .u8 23,.int .i64 elw,.int .u64 elh,.int .u64 ell,.string ehd,.string enm,.int .i64 eeh,.int .i64 eel,.slice (some ⟨pb,po,none⟩) 2 eac]] (l1++l2++[⟨20,1,0,0,⟨0,0⟩⟩]++[⟨7,1,0,0,⟨0,0⟩⟩]):=by
 intro V hV;obtain⟨W,hW,ZY,hz,ca,cb,-,-⟩:=Vy V #[.slice q0p q0n q0c,.slice q1p q1n q1c,.slice q2p q2n q2c,.slice q3p q3n q3c,.slice q4p q4n q4c,.slice q5p q5n q5c,.slice q6p q6n q6c,.int .i64 act,.map (some r)] #[.int .u8 23,.int .i64 elw,.int .u64 elh,.int .u64 ell,.string ehd,.string enm,.int .i64 eeh,.int .i64 eel,.slice (some ⟨pb,po,none⟩) 2 eac] 106 65;have c0_0:=ca 0 _ rfl;have c0_1:=ca 1 _ rfl;have c0_2:=ca 2 _ rfl;have c0_3:=ca 3 _ rfl;have c0_4:=ca 4 _ rfl;have c0_5:=ca 5 _ rfl;have c0_6:=ca 6 _ rfl;have c0_7:=ca 7 _ rfl;have c0_8:=ca 8 _ rfl;have c1_0:=cb 0 _ rfl;have c1_1:=cb 1 _ rfl;have c1_2:=cb 2 _ rfl;have c1_3:=cb 3 _ rfl;have c1_4:=cb 4 _ rfl;have c1_5:=cb 5 _ rfl;have c1_6:=cb 6 _ rfl;have c1_7:=cb 7 _ rfl;have c1_8:=cb 8 _ rfl;have hWV:=hV.trans (ZY.mono hV.size);have WY:=V5 (hB:=hWV) hX;have hY':=V5 (hB:=hWV) hY;have x0:=fun z=>((WY.plus z).c0 _ rfl:(Go.Proofs.YtheaknidbcbneaaGreat.plus W z).cell? _=_);have x1:=fun z=>(WY.plus z).cs 0 _ rfl;have x2:=fun z=>(WY.plus z).cs 1 _ rfl;have x3:=fun z=>(WY.plus z).cs 2 _ rfl;have x4:=fun z=>(WY.plus z).cs 3 _ rfl;have x5:=fun z=>(WY.plus z).cs 4 _ rfl;have x6:=fun z=>(WY.plus z).cs 5 _ rfl;have x7:=fun z=>(WY.plus z).cs 6 _ rfl;have x8:=fun z=>(WY.plus z).cs 7 _ rfl;have y0:=fun z=>((hY'.plus z).c0 _ rfl:(Go.Proofs.YtheaknidbcbneaaGreat.plus W z).cell? _=_);have y1:=fun z=>(hY'.plus z).cs 0 _ rfl;have y2:=fun z=>(hY'.plus z).cs 1 _ rfl;have y3:=fun z=>(hY'.plus z).cs 2 _ rfl;have y4:=fun z=>(hY'.plus z).cs 3 _ rfl;have y5:=fun z=>(hY'.plus z).cs 4 _ rfl;have y6:=fun z=>(hY'.plus z).cs 5 _ rfl;have y7:=fun z=>(hY'.plus z).cs 6 _ rfl;have y8:=fun z=>(hY'.plus z).cs 7 _ rfl;have f0_0:=c0_0 ⟨#[],W.drawn⟩;have f0_1:=c0_1 ⟨#[],W.drawn⟩;have f0_2:=c0_2 ⟨#[],W.drawn⟩;have f0_3:=c0_3 ⟨#[],W.drawn⟩;have f0_4:=c0_4 ⟨#[],W.drawn⟩;have f0_5:=c0_5 ⟨#[],W.drawn⟩;have f0_6:=c0_6 ⟨#[],W.drawn⟩;have f0_7:=c0_7 ⟨#[],W.drawn⟩;have f0_8:=c0_8 ⟨#[],W.drawn⟩;have f1_0:=c1_0 ⟨#[],W.drawn⟩;have f1_1:=c1_1 ⟨#[],W.drawn⟩;have f1_2:=c1_2 ⟨#[],W.drawn⟩;have f1_3:=c1_3 ⟨#[],W.drawn⟩;have f1_4:=c1_4 ⟨#[],W.drawn⟩;have f1_5:=c1_5 ⟨#[],W.drawn⟩;have f1_6:=c1_6 ⟨#[],W.drawn⟩;have f1_7:=c1_7 ⟨#[],W.drawn⟩;have f1_8:=c1_8 ⟨#[],W.drawn⟩;have gx0:=x0 ⟨#[],W.drawn⟩;have gx1:=x1 ⟨#[],W.drawn⟩;have gx2:=x2 ⟨#[],W.drawn⟩;have gx3:=x3 ⟨#[],W.drawn⟩;have gx4:=x4 ⟨#[],W.drawn⟩;have gx5:=x5 ⟨#[],W.drawn⟩;have gx6:=x6 ⟨#[],W.drawn⟩;have gx7:=x7 ⟨#[],W.drawn⟩;have gx8:=x8 ⟨#[],W.drawn⟩;have gy0:=y0 ⟨#[],W.drawn⟩;have gy1:=y1 ⟨#[],W.drawn⟩;have gy2:=y2 ⟨#[],W.drawn⟩;have gy3:=y3 ⟨#[],W.drawn⟩;have gy4:=y4 ⟨#[],W.drawn⟩;have gy5:=y5 ⟨#[],W.drawn⟩;have gy6:=y6 ⟨#[],W.drawn⟩;have gy7:=y7 ⟨#[],W.drawn⟩;have gy8:=y8 ⟨#[],W.drawn⟩;rw[ZK]at f0_0 f0_1 f0_2 f0_3 f0_4 f0_5 f0_6 f0_7 f0_8 f1_0 f1_1 f1_2 f1_3 f1_4 f1_5 f1_6 f1_7 f1_8 gx0 gx1 gx2 gx3 gx4 gx5 gx6 gx7 gx8 gy0 gy1 gy2 gy3 gy4 gy5 gy6 gy7 gy8
 have WE:Hid (∀U,Below W.heap.size W U→(U.cell? ⟨V.heap.size,0,none⟩=some (.slice q0p q0n q0c)∧U.cell? ⟨V.heap.size,1,none⟩=some (.slice q1p q1n q1c)∧U.cell? ⟨V.heap.size,2,none⟩=some (.slice q2p q2n q2c)∧U.cell? ⟨V.heap.size,3,none⟩=some (.slice q3p q3n q3c)∧U.cell? ⟨V.heap.size,4,none⟩=some (.slice q4p q4n q4c)∧U.cell? ⟨V.heap.size,5,none⟩=some (.slice q5p q5n q5c)∧U.cell? ⟨V.heap.size,6,none⟩=some (.slice q6p q6n q6c)∧U.cell? ⟨V.heap.size,7,none⟩=some (.int .i64 act)∧U.cell? ⟨V.heap.size,8,none⟩=some (.map (some r))∧U.cell? ⟨V.heap.size+1,8,none⟩=some (.slice (some ⟨pb,po,none⟩) 2 eac)∧U.cell? ⟨pb,po,none⟩=some (.int .u8 xop)∧U.cell? ⟨pb,po+1,none⟩=some (.int .i64 xlw)∧U.cell? ⟨pb,po+2,none⟩=some (.int .u64 xlh)∧U.cell? ⟨pb,po+3,none⟩=some (.int .u64 xll)∧U.cell? ⟨pb,po+4,none⟩=some (.string xhd)∧U.cell? ⟨pb,po+5,none⟩=some (.string xnm)∧U.cell? ⟨pb,po+6,none⟩=some (.int .i64 xeh)∧U.cell? ⟨pb,po+7,none⟩=some (.int .i64 xel)∧U.cell? ⟨pb,po+8,none⟩=some (.slice xap xan xac)∧U.cell? ⟨pb,po+9,none⟩=some (.int .u8 yop)∧U.cell? ⟨pb,po+9+1,none⟩=some (.int .i64 ylw)∧U.cell? ⟨pb,po+9+2,none⟩=some (.int .u64 ylh)∧U.cell? ⟨pb,po+9+3,none⟩=some (.int .u64 yll)∧U.cell? ⟨pb,po+9+4,none⟩=some (.string yhd)∧U.cell? ⟨pb,po+9+5,none⟩=some (.string ynm)∧U.cell? ⟨pb,po+9+6,none⟩=some (.int .i64 yeh)∧U.cell? ⟨pb,po+9+7,none⟩=some (.int .i64 yel)∧U.cell? ⟨pb,po+9+8,none⟩=some (.slice yap yan yac)∧Below W.heap.size W U)):=Zg fun U hU=>by
  exact⟨Yx hU f0_0,Yx hU f0_1,Yx hU f0_2,Yx hU f0_3,Yx hU f0_4,Yx hU f0_5,Yx hU f0_6,Yx hU f0_7,Yx hU f0_8,Yx hU f1_8,Yx hU gx0,Yx hU gx1,Yx hU gx2,Yx hU gx3,Yx hU gx4,Yx hU gx5,Yx hU gx6,Yx hU gx7,Yx hU gx8,Yx hU gy0,Yx hU gy1,Yx hU gy2,Yx hU gy3,Yx hU gy4,Yx hU gy5,Yx hU gy6,Yx hU gy7,Yx hU gy8,hU⟩
 have q1:=Zg (fun X (hX:Below W.heap.size W X)=>h1 X (hWV.trans (hX.mono hWV.size)));obtain⟨zV,hzV⟩:=ZS hWV;have hmW:Yf W r (Xz 26):=by rw[hzV];exact hm.plus _
 have hbw:=Zg ZY;have YI:=Zg hb;have Yd:=Zg h0;have YJ:=Zg hmW;clear hm hX hY h1 hV ca cb hzV hb h0 WY hY' hWV hmW;go_enter func69,ntmps69;go_upto_region 1 with (fail)
 rw[←hW];clear hW ZY;go_region_held3 (fun U=>U.cell? ⟨V.heap.size,0,none⟩=some (.slice q0p q0n q0c)∧U.cell? ⟨V.heap.size,1,none⟩=some (.slice q1p q1n q1c)∧U.cell? ⟨V.heap.size,2,none⟩=some (.slice q2p q2n q2c)∧U.cell? ⟨V.heap.size,3,none⟩=some (.slice q3p q3n q3c)∧U.cell? ⟨V.heap.size,4,none⟩=some (.slice q4p q4n q4c)∧U.cell? ⟨V.heap.size,5,none⟩=some (.slice q5p q5n q5c)∧U.cell? ⟨V.heap.size,6,none⟩=some (.slice q6p q6n q6c)∧U.cell? ⟨V.heap.size,7,none⟩=some (.int .i64 act)∧U.cell? ⟨V.heap.size,8,none⟩=some (.map (some r))∧U.cell? ⟨V.heap.size+1,8,none⟩=some (.slice (some ⟨pb,po,none⟩) 2 eac)∧U.cell? ⟨pb,po,none⟩=some (.int .u8 xop)∧U.cell? ⟨pb,po+1,none⟩=some (.int .i64 xlw)∧U.cell? ⟨pb,po+2,none⟩=some (.int .u64 xlh)∧U.cell? ⟨pb,po+3,none⟩=some (.int .u64 xll)∧U.cell? ⟨pb,po+4,none⟩=some (.string xhd)∧U.cell? ⟨pb,po+5,none⟩=some (.string xnm)∧U.cell? ⟨pb,po+6,none⟩=some (.int .i64 xeh)∧U.cell? ⟨pb,po+7,none⟩=some (.int .i64 xel)∧U.cell? ⟨pb,po+8,none⟩=some (.slice xap xan xac)∧U.cell? ⟨pb,po+9,none⟩=some (.int .u8 yop)∧U.cell? ⟨pb,po+9+1,none⟩=some (.int .i64 ylw)∧U.cell? ⟨pb,po+9+2,none⟩=some (.int .u64 ylh)∧U.cell? ⟨pb,po+9+3,none⟩=some (.int .u64 yll)∧U.cell? ⟨pb,po+9+4,none⟩=some (.string yhd)∧U.cell? ⟨pb,po+9+5,none⟩=some (.string ynm)∧U.cell? ⟨pb,po+9+6,none⟩=some (.int .i64 yeh)∧U.cell? ⟨pb,po+9+7,none⟩=some (.int .i64 yel)∧U.cell? ⟨pb,po+9+8,none⟩=some (.slice yap yan yac)∧Below W.heap.size W U) (exact WE.out _ (by repeat (first|exact Zc _ _|assumption|apply Wy|apply U6))) (first|(go_at_call 118;refine (q1.out _ (by repeat (first|exact Zc _ _|assumption|apply Wy|apply U6))).mono ?_;rintro e w' ⟨v1,v2,rfl,⟨z1,rfl⟩,ho1,ho2⟩));rename_i hSS
 clear hSS WE;obtain⟨p1,c1,rfl,Vc,hr1⟩:=ho1.form;obtain⟨p2,c2,rfl,X3,hr2⟩:=ho2.form;obtain⟨n1,hn1⟩:=Zv l1.length;obtain⟨n2,XG⟩:=Zv l2.length;rw[hn1]at Vc ho1 ⊢;rw[XG]at X3 ho2 ⊢;obtain⟨X,hX⟩:=Zv (Go.Proofs.YtheaknidbcbneaaGreat.plus W.drew z1);rw[hX]at ho1 ho2 hr1 hr2 ⊢;obtain⟨z1',hX1⟩:∃z,X=Go.Proofs.YtheaknidbcbneaaGreat.plus W z:=by rw[←hX];exact ZS ((Wy (Zc W.heap.size W)).trans (Z9 W.drew z1))
 have d0_0:=Yt hX1 c0_0;have d0_1:=Yt hX1 c0_1;have d0_2:=Yt hX1 c0_2;have d0_3:=Yt hX1 c0_3;have d0_4:=Yt hX1 c0_4;have d0_5:=Yt hX1 c0_5;have d0_6:=Yt hX1 c0_6;have d0_7:=Yt hX1 c0_7;have d0_8:=Yt hX1 c0_8;have d1_0:=Yt hX1 c1_0;have d1_1:=Yt hX1 c1_1;have d1_2:=Yt hX1 c1_2;have d1_3:=Yt hX1 c1_3;have d1_4:=Yt hX1 c1_4;have d1_5:=Yt hX1 c1_5;have d1_6:=Yt hX1 c1_6;have d1_7:=Yt hX1 c1_7;have d1_8:=Yt hX1 c1_8;have hmX:=Zg (show Yf X r (Xz 26) by rw[hX1];exact YJ.out.plus _);have hl:=fun z=>UP (hmX.out.plus z) 23;rw[show Tm 23=20 by decide]at hl;have hBX:=Zg (show Below V.heap.size V X from hbw.out.trans ((hX1▸Z9 W _:Below W.heap.size W X).mono hbw.out.size));have hr1':=Zg hr1;have hr2':=Zg hr2;have hn1':=Zg hn1;have hn2':=Zg XG;have qWd:=Zg (fun X' (WY:Below X.heap.size X X')=>YN (PQ p1 n1 c1 l1 X' (V3 hr1 WY) hn1 (by have:=YI.out;omega) Yd.out));clear q1 hX hX1 hr1 hr2 ho1 ho2 Vc X3 hn1 XG YJ c0_0 c0_1 c0_2 c0_3 c0_4 c0_5 c0_6 c0_7 c0_8 c1_0 c1_1 c1_2 c1_3 c1_4 c1_5 c1_6 c1_7 c1_8 x0 y0 gx0 gy0 f0_0 f1_0 x1 y1 gx1 gy1 f0_1 f1_1 x2 y2 gx2 gy2 f0_2 f1_2 x3 y3 gx3 gy3 f0_3 f1_3 x4 y4 gx4 gy4 f0_4 f1_4 x5 y5 gx5 gy5 f0_5 f1_5 x6 y6 gx6 gy6 f0_6 f1_6 x7 y7 gx7 gy7 f0_7 f1_7 x8 y8 gx8 gy8 f0_8 f1_8;go_upto_region 2 with (fail)
 go_cut [7] (fun p7 wx=>∃b,p7=.pointer (some ⟨b,0,none⟩)∧Hid (UA X wx b ⟨20,WI l1,0,0,⟨0,0⟩⟩))
 case first =>
  have k0:X.cell? ⟨V.heap.size,8,none⟩=some (.map (some r)):=by have:=d0_8 ⟨#[],X.drawn⟩;rwa [ZK]at this
  have k1:X.cell? ⟨V.heap.size+1,0,none⟩=some (.int .u8 23):=by have:=d1_0 ⟨#[],X.drawn⟩;rwa [ZK]at this
  have k2:=fun o=>ZL k0 o;have k3:=fun o=>ZL k1 o;have k4:=fun o z=>ZC (ZL k0 o) z;have k5:=fun o z=>ZC (ZL k1 o) z;have hmD:Yf X.drew r (Xz 26):=hmX.out;have l0:=UP hmD 23;have hmE:=fun o=>(show Yf (X.alloc o).drew r (Xz 26) from hmX.out.alloc o);have l1':=fun o=>UP (hmE o) 23;have l2:=fun o z=>UP ((hmE o).plus z) 23;have k10:=fun o z=>ZC (show (X.alloc o).drew.cell? ⟨V.heap.size,8,none⟩=some (.map (some r)) from k2 o) z;have k11:=fun o z=>ZC (show (X.alloc o).drew.cell? ⟨V.heap.size+1,0,none⟩=some (.int .u8 23) from k3 o) z;have l3:=fun z=>UP (hmD.plus z) 23;have l4:=fun o z=>UP ((hmD.plus z).alloc o) 23;have k6:=fun z=>ZC (show X.drew.cell? ⟨V.heap.size,8,none⟩=some (.map (some r)) from k0) z;have k7:=fun z=>ZC (show X.drew.cell? ⟨V.heap.size+1,0,none⟩=some (.int .u8 23) from k1) z;have k8:=fun z o=>ZL (k6 z) o;have k9:=fun z o=>ZL (k7 z) o;rw[show Tm 23=20 by decide]at l0;simp only[show Tm 23=20 by decide]at l1' l2 l3 l4;have hD0:=Zg (Wy (Zc X.heap.size X));have fr0:=fun z o=>(Lf X #[.int .u8 0,.int .i64 0,.int .i64 0,.int .i64 0,.int .u64 0,.int .u64 0] 79 o z);have fc0:=fun z=>(Ms X #[.int .u8 0,.int .i64 0,.int .i64 0,.int .i64 0,.int .u64 0,.int .u64 0] 79 z);have fc1:=fun z=>fc0 z 0 _ rfl;have fc2:=fun z=>fc0 z 1 _ rfl;have fc3:=fun z=>fc0 z 2 _ rfl;have fc4:=fun z=>fc0 z 3 _ rfl;have fc5:=fun z=>fc0 z 4 _ rfl;have fc6:=fun z=>fc0 z 5 _ rfl;clear fc0;go_region_law (go_simp;go_at_call 68;refine (qWd.out _ (by first|exact hD0.out|exact Wy ((Zc X.heap.size X).alloc (Zp _) _))).mono ?_;rintro e w' ⟨rfl,yd,rfl⟩);all_goals
   go_wp2;go_meet;first
    | with_reducible exact⟨_,rfl,Zg (Il (X:=X) (hD0.out.trans ((Z9 X.drew yd).mono hD0.out.size)) ⟨20,WI l1,0,0,⟨0,0⟩⟩)⟩
    | with_reducible exact⟨_,rfl,Zg (Im X yd ⟨20,WI l1,0,0,⟨0,0⟩⟩)⟩
 case rest =>
 obtain⟨b,rfl,hN⟩:=hcut;obtain⟨zc,hzc⟩:=ZS hN.out.grown;have g1:wc.cell? ⟨V.heap.size+1,0,none⟩=some (.int .u8 23):=by rw[hzc];exact d1_0 zc
 have n0:=hN.out.cells (j:=0) rfl;have n1':=hN.out.cells (j:=1) rfl;have n2':=hN.out.cells (j:=2) rfl;have n3':=hN.out.cells (j:=3) rfl;have n4':=hN.out.cells (j:=4) rfl;have n5':=hN.out.cells (j:=5) rfl;have nf:=hN.out.fz;clear d0_0 d0_1 d0_2 d0_3 d0_4 d0_5 d0_6 d0_7 d0_8 d1_0 d1_1 d1_2 d1_3 d1_4 d1_5 d1_6 d1_7 d1_8 hmX hl qWd hzc;go_upto_region 14 with (fail)
 have VE:UA X (wc.setCell ⟨b,1,none⟩ (.int .i64 1)) b ⟨20,1,0,0,⟨0,0⟩⟩:=⟨hN.out.grown.setCell hN.out.ge _,hN.out.ge,heap_setCell_same _ _ 1 _ _ _ hN.out.heap⟩;clear g1 n0 n1' n2' n3' n4' n5' nf hN;generalize wc.setCell ⟨b,1,none⟩ (.int .i64 1)=Y at VE ⊢;have n0:=VE.cells (j:=0) rfl;have n1':=VE.cells (j:=1) rfl;have n2':=VE.cells (j:=2) rfl;have n3':=VE.cells (j:=3) rfl;have n4':=VE.cells (j:=4) rfl;have n5':=VE.cells (j:=5) rfl;obtain⟨Z,hZ⟩:=Zv (Y.alloc (.cells #[.slice p1 n1 c1,.slice p2 n2 c2] 35));have hXZ:Below X.heap.size X Z:=hZ▸VE.grown.alloc VE.grown.size _;have Z1:Z2 Z 1 YY (some ⟨Y.heap.size,0,none⟩) [(⟨p1,c1,l1⟩:Sl Nd),⟨p2,c2,l2⟩]:=by
  intro i x hx;match i,hx with
  | 0,hx =>
   obtain rfl:=Option.some.inj hx;refine⟨_,rfl,fun j u hu=>?_⟩;match j,hu with
   | 0,hu =>
    obtain rfl:=Option.some.inj hu;rw[Addr.add_lit,Addr.add_lit,←hZ];simp only[Sl.v,hn1'.out];exact Z4 Y _ _ _ 0 rfl
  | 1,hx =>
   obtain rfl:=Option.some.inj hx;refine⟨_,rfl,fun j u hu=>?_⟩;match j,hu with
   | 0,hu =>
    obtain rfl:=Option.some.inj hu;rw[Addr.add_lit,Addr.add_lit,←hZ];simp only[Sl.v,hn2'.out];exact Z4 Y _ _ _ 1 rfl
 have qW:=Zg (Qz ⟨20,1,0,0,⟨0,0⟩⟩ (some ⟨Y.heap.size,0,none⟩) 2 2 _ Z Z1 rfl (fun y hy=>by
  rcases List.mem_cons.1 hy with rfl|hy
  ·exact V3 hr1'.out hXZ
  ·obtain rfl:=List.mem_singleton.1 hy
   exact V3 hr2'.out hXZ) (by have:=YI.out;simp[Y9];omega) (by decide)).at
 rw[show Y9 [(⟨p1,c1,l1⟩:Sl Nd),⟨p2,c2,l2⟩]=l1++l2 by simp[Y9]]at qW;have Xq:=Zg (hBX.out.trans (hXZ.mono hBX.out.size));have hZ':=Zg hZ;clear hZ hXZ Z1 VE hr1' hr2';go_wp2_with fail;rw[hZ'.out];refine qW.out.mono ?_;rintro e w' ⟨v3,rfl,⟨z3,rfl⟩,ho3⟩;obtain⟨p3,c3,rfl,hc3,hr3⟩:=ho3.form;obtain⟨n3,hn3⟩:=Zv ((l1++l2++[(⟨20,1,0,0,⟨0,0⟩⟩:Nd)]).length);have qT:=(JU ⟨p3,c3,l1++l2++[(⟨20,1,0,0,⟨0,0⟩⟩:Nd)]⟩ _ hr3 (by have:=YI.out;simp;omega)).at;simp only[Sl.v,hn3]at qT;rw[hn3];have Yz:=Zg (Xq.out.trans ((Z9 Z z3).mono Xq.out.size));replace qT:=Zg qT;clear ho3 hc3 hr3 hn3 qW Xq hZ' n0 n1' n2' n3' n4' n5';generalize Go.Proofs.YtheaknidbcbneaaGreat.plus Z z3=Z3 at Yz qT ⊢;go_wp2_with fail;refine qT.out.mono ?_;rintro e w' ⟨v4,rfl,⟨z4,rfl⟩,ho4⟩;have hF:=Zg (ho4.lower Yz.out.size);have hE:=Zg (Yz.out.trans ((Z9 Z3 z4).mono Yz.out.size));clear ho4;go_wp2_with fail;go_ret;exact⟨v4,rfl,ZS hE.out,hF.out⟩
def Y1{α:Type}(q:α→Bool):List α→Nat→Int
 | [],_=>-1
 | x :: l,k=>if q x then (k:Int) else Y1 q l (k+1)
theorem RQ{α:Type}(q:α→Bool)(l:List α)(k:Nat)(x:α)(hx:l[k]?=some x):Y1 q (l.drop k) k=if q x then (k:Int) else Y1 q (l.drop (k+1)) (k+1):=by
 obtain⟨h1,rfl⟩:=Zj.1 hx;rw[List.drop_eq_getElem_cons h1,Y1]
theorem M1{α:Type}(cells:α→List Value)(hC:∀x,OM (cells x))(may:α→Bool)(g:FuncId)(first caps:Array Value)(K:α→Prop)(w:World)(A:Sl α)(hA:A.In w 2 cells K)(hl:A.l.length≤1048576)(Wb:∀args w,(callFunc g args).run Zr w=.ok (.enter g args) w)(hf:∀x∈A.l,Kp Zr w g (first.push (.agg (cells x).toArray)++caps) (.bool (may x))) :
  Kp Zr w 159 #[A.v,.func (.func g) first caps] (.int .i64 (Y1 may A.l 0)):=by
 intro y0;obtain⟨p,cap,l⟩:=A;simp only[Sl.v]at hl hf ⊢;obtain⟨n,hn⟩:=Zv l.length;have hA:=hA.row.plus y0;have hf:=fun x hx=>((hf x hx).up y0).pure;obtain⟨W,hW⟩:=Zv (plus w y0);rw[hW]at hA ⊢;simp only[hW]at hf;rw[hn]at hl;clear hW;obtain⟨R,hR⟩:=Zv (Y1 may l 0);have h0:Y1 may (l.drop 0) 0=R:=hR;rw[hn,hR];have ZR:=Zg hA;have ZJ:=Zg hn;have ZX:=Zg hl;have Yd:=Zg h0;have Yu:=Zg hf;have Xr:=Zg hC;clear hA hl hn hR h0 hf hC;go_enter func159,ntmps159;go_wp2;go_loopw [5,6,9] (fun _ _ iv wr=>∃k:Nat,k≤n∧iv=.int .i64 (k:Int)∧Hid (Y1 may (l.drop k) k=R)∧∃y,wr=plus W y) (fun _ _ iv _=>n-(intOf iv).toNat)
 case atStart=>exact⟨0,Zq _,rfl,Yd,⟨#[],W.drawn⟩,(ZK W).symm⟩
 case round =>
  obtain⟨k,hk,rfl,hs,y,rfl⟩:=hrel;by_cases Zz:k<n
  ·obtain⟨a,ha⟩:=Z6 l k (by rw[ZJ.out];exact Zz)
   obtain⟨pa,rfl,hc⟩:=ZR.out k a ha;have q1:=Yu.out a (Zl ha);have ZB:=(RQ may l k a ha).symm.trans hs.out;obtain⟨Z,hZ⟩:=Zv (may a);rw[hZ]at q1 ZB;obtain⟨c0,c1p,c1n,c1c,ea⟩:=Xr.out a;rw[ea]at q1;have d0:=fun y=>(hc.plus y).c0 _ (by rw[ea];rfl);have d1:=fun y=>(hc.plus y).cs 0 _ (by rw[ea];rfl);have q1':=Zg q1;have a6:=Zg (Yo k n Zz ZX.out);clear q1 hZ hc ha hs ea;cases Z with
   | false =>
    have ZD:=Zg (show Y1 may (l.drop (k+1)) (k+1)=R by rw[←ZB,if_neg (by decide)]);clear ZB;go_wp2_with (refine XV q1'.out ?_;rintro e w' ⟨rfl,x,rfl⟩);go_roundw
    case rel=>exact⟨k+1,Zz,congrArg (Zt .i64) a6.out,ZD,x,rfl⟩
    case measure=>exact YF k n Zz a6.out
   | true =>
    have ZD:=Zg (show (k:Int)=R by rw[←ZB,if_pos rfl]);clear ZB;go_wp2_with (refine XV q1'.out ?_;rintro e w' ⟨rfl,x,rfl⟩);go_ret;exact⟨congrArg (fun z=>Zf (Zt .i64 z)) ZD.out,x,rfl⟩
  ·obtain rfl:k=n:=by omega
   have ZD:=Zg (show (-1:Int)=R by
    rw[←hs.out,Zh (by rw[ZJ.out];exact Zp _)];rfl)
   clear hs Zz hk;go_wp2;go_ret;exact⟨congrArg (fun z=>Zf (Zt .i64 z)) ZD.out,y,rfl⟩
theorem M0{α:Type}(cells:α→List Value)(hC:∀x,OL (cells x))(may:α→Bool)(g:FuncId)(first caps:Array Value)(K:α→Prop)(w:World)(A:Sl α)(hA:A.In w 2 cells K)(hl:A.l.length≤1048576)(Wb:∀args w,(callFunc g args).run Zr w=.ok (.enter g args) w)(hf:∀x∈A.l,Kp Zr w g (first.push (.agg (cells x).toArray)++caps) (.bool (may x))) :
  Kp Zr w 157 #[A.v,.func (.func g) first caps] (.int .i64 (Y1 may A.l 0)):=by
 intro y0;obtain⟨p,cap,l⟩:=A;simp only[Sl.v]at hl hf ⊢;obtain⟨n,hn⟩:=Zv l.length;have hA:=hA.row.plus y0;have hf:=fun x hx=>((hf x hx).up y0).pure;obtain⟨W,hW⟩:=Zv (plus w y0);rw[hW]at hA ⊢;simp only[hW]at hf;rw[hn]at hl;clear hW;obtain⟨R,hR⟩:=Zv (Y1 may l 0);have h0:Y1 may (l.drop 0) 0=R:=hR;rw[hn,hR];have ZR:=Zg hA;have ZJ:=Zg hn;have ZX:=Zg hl;have Yd:=Zg h0;have Yu:=Zg hf;have Xr:=Zg hC;clear hA hl hn hR h0 hf hC;go_enter func157,ntmps157;go_wp2;go_loopw [5,6,9] (fun _ _ iv wr=>∃k:Nat,k≤n∧iv=.int .i64 (k:Int)∧Hid (Y1 may (l.drop k) k=R)∧∃y,wr=plus W y) (fun _ _ iv _=>n-(intOf iv).toNat)
 case atStart=>exact⟨0,Zq _,rfl,Yd,⟨#[],W.drawn⟩,(ZK W).symm⟩
 case round =>
  obtain⟨k,hk,rfl,hs,y,rfl⟩:=hrel;by_cases Zz:k<n
  ·obtain⟨a,ha⟩:=Z6 l k (by rw[ZJ.out];exact Zz)
   obtain⟨pa,rfl,hc⟩:=ZR.out k a ha;have q1:=Yu.out a (Zl ha);have ZB:=(RQ may l k a ha).symm.trans hs.out;obtain⟨Z,hZ⟩:=Zv (may a);rw[hZ]at q1 ZB;obtain⟨c0,c1,ea⟩:=Xr.out a;rw[ea]at q1;have d0:=fun y=>(hc.plus y).c0 _ (by rw[ea];rfl);have d1:=fun y=>(hc.plus y).cs 0 _ (by rw[ea];rfl);have q1':=Zg q1;have a6:=Zg (Yo k n Zz ZX.out);clear q1 hZ hc ha hs ea;cases Z with
   | false =>
    have ZD:=Zg (show Y1 may (l.drop (k+1)) (k+1)=R by rw[←ZB,if_neg (by decide)]);clear ZB;go_wp2_with (refine XV q1'.out ?_;rintro e w' ⟨rfl,x,rfl⟩);go_roundw
    case rel=>exact⟨k+1,Zz,congrArg (Zt .i64) a6.out,ZD,x,rfl⟩
    case measure=>exact YF k n Zz a6.out
   | true =>
    have ZD:=Zg (show (k:Int)=R by rw[←ZB,if_pos rfl]);clear ZB;go_wp2_with (refine XV q1'.out ?_;rintro e w' ⟨rfl,x,rfl⟩);go_ret;exact⟨congrArg (fun z=>Zf (Zt .i64 z)) ZD.out,x,rfl⟩
  ·obtain rfl:k=n:=by omega
   have ZD:=Zg (show (-1:Int)=R by
    rw[←hs.out,Zh (by rw[ZJ.out];exact Zp _)];rfl)
   clear hs Zz hk;go_wp2;go_ret;exact⟨congrArg (fun z=>Zf (Zt .i64 z)) ZD.out,y,rfl⟩
theorem MZ{α:Type}(cells:α→List Value)(hC:∀x,Qr (cells x))(may:α→Bool)(g:FuncId)(first caps:Array Value)(K:α→Prop)(w:World)(A:Sl α)(hA:A.In w 9 cells K)(hl:A.l.length≤1048576)(Wb:∀args w,(callFunc g args).run Zr w=.ok (.enter g args) w)(hf:∀x∈A.l,Kp Zr w g (first.push (.agg (cells x).toArray)++caps) (.bool (may x))) :
  Kp Zr w 154 #[A.v,.func (.func g) first caps] (.int .i64 (Y1 may A.l 0)):=by
 intro y0;obtain⟨p,cap,l⟩:=A;simp only[Sl.v]at hl hf ⊢;obtain⟨n,hn⟩:=Zv l.length;have hA:=hA.row.plus y0;have hf:=fun x hx=>((hf x hx).up y0).pure;obtain⟨W,hW⟩:=Zv (plus w y0);rw[hW]at hA ⊢;simp only[hW]at hf;rw[hn]at hl;clear hW;obtain⟨R,hR⟩:=Zv (Y1 may l 0);have h0:Y1 may (l.drop 0) 0=R:=hR;rw[hn,hR];have ZR:=Zg hA;have ZJ:=Zg hn;have ZX:=Zg hl;have Yd:=Zg h0;have Yu:=Zg hf;have Xr:=Zg hC;clear hA hl hn hR h0 hf hC;go_enter func154,ntmps154;go_wp2;go_loopw [5,6,9] (fun _ _ iv wr=>∃k:Nat,k≤n∧iv=.int .i64 (k:Int)∧Hid (Y1 may (l.drop k) k=R)∧∃y,wr=plus W y) (fun _ _ iv _=>n-(intOf iv).toNat)
 case atStart=>exact⟨0,Zq _,rfl,Yd,⟨#[],W.drawn⟩,(ZK W).symm⟩
 case round =>
  obtain⟨k,hk,rfl,hs,y,rfl⟩:=hrel;by_cases Zz:k<n
  ·obtain⟨a,ha⟩:=Z6 l k (by rw[ZJ.out];exact Zz)
   obtain⟨pa,rfl,hc⟩:=ZR.out k a ha;have q1:=Yu.out a (Zl ha);have ZB:=(RQ may l k a ha).symm.trans hs.out;obtain⟨Z,hZ⟩:=Zv (may a);rw[hZ]at q1 ZB;obtain⟨c0,c1,c2,c3,c4,c5,c6,c7,c8p,c8n,c8c,ea⟩:=Xr.out a;rw[ea]at q1;have d0:=fun y=>(hc.plus y).c0 _ (by rw[ea];rfl);have d1:=fun y=>(hc.plus y).cs 0 _ (by rw[ea];rfl);have d2:=fun y=>(hc.plus y).cs 1 _ (by rw[ea];rfl);have d3:=fun y=>(hc.plus y).cs 2 _ (by rw[ea];rfl);have d4:=fun y=>(hc.plus y).cs 3 _ (by rw[ea];rfl);have d5:=fun y=>(hc.plus y).cs 4 _ (by rw[ea];rfl);have d6:=fun y=>(hc.plus y).cs 5 _ (by rw[ea];rfl);have d7:=fun y=>(hc.plus y).cs 6 _ (by rw[ea];rfl);have d8:=fun y=>(hc.plus y).cs 7 _ (by rw[ea];rfl);have q1':=Zg q1;have a6:=Zg (Yo k n Zz ZX.out);clear q1 hZ hc ha hs ea;cases Z with
   | false =>
    have ZD:=Zg (show Y1 may (l.drop (k+1)) (k+1)=R by rw[←ZB,if_neg (by decide)]);clear ZB;go_wp2_with (refine XV q1'.out ?_;rintro e w' ⟨rfl,x,rfl⟩);go_roundw
    case rel=>exact⟨k+1,Zz,congrArg (Zt .i64) a6.out,ZD,x,rfl⟩
    case measure=>exact YF k n Zz a6.out
   | true =>
    have ZD:=Zg (show (k:Int)=R by rw[←ZB,if_pos rfl]);clear ZB;go_wp2_with (refine XV q1'.out ?_;rintro e w' ⟨rfl,x,rfl⟩);go_ret;exact⟨congrArg (fun z=>Zf (Zt .i64 z)) ZD.out,x,rfl⟩
  ·obtain rfl:k=n:=by omega
   have ZD:=Zg (show (-1:Int)=R by
    rw[←hs.out,Zh (by rw[ZJ.out];exact Zp _)];rfl)
   clear hs Zz hk;go_wp2;go_ret;exact⟨congrArg (fun z=>Zf (Zt .i64 z)) ZD.out,y,rfl⟩
theorem LX(B:Nat)(nm a0 a1p a1n a1c)(w:World)(hb:w.cell? ⟨B,0,none⟩=some (.string nm)):Kp Zr w 160 #[.agg #[.string a0,.slice a1p a1n a1c],.pointer (some ⟨B,0,none⟩)] (.bool (a0.toList==nm.toList)):=by
 intro y0;have hb:=ZC hb y0;obtain⟨V,hV⟩:=Zv (plus w y0);rw[hV]at hb ⊢;clear hV;have hl:=World.block_lt_of_cell? V _ hb;have hb2:=fun X:Obj=>ZL hb X;clear hb;go_enter func160,ntmps160;go_wp2;go_ret;exact⟨rfl,ZS ((Zc _ _).alloc (Zp _) _)⟩
theorem LV(B:Nat)(nm a0 a1)(w:World)(hb:w.cell? ⟨B,0,none⟩=some (.string nm)):Kp Zr w 158 #[.agg #[.string a0,.int .i64 a1],.pointer (some ⟨B,0,none⟩)] (.bool (a0.toList==nm.toList)):=by
 intro y0;have hb:=ZC hb y0;obtain⟨V,hV⟩:=Zv (plus w y0);rw[hV]at hb ⊢;clear hV;have hl:=World.block_lt_of_cell? V _ hb;have hb2:=fun X:Obj=>ZL hb X;clear hb;go_enter func158,ntmps158;go_wp2;go_ret;exact⟨rfl,ZS ((Zc _ _).alloc (Zp _) _)⟩
theorem OO(x:Ex):Qr x.cells:=⟨_,_,_,_,_,_,_,_,_,_,_,rfl⟩
theorem GR(x:Fd):OL x.cells:=⟨_,_,rfl⟩
theorem GS(x:Hr):OM x.cells:=⟨_,_,_,_,rfl⟩
theorem UN{α:Type}(f:α→Nat)(hf:∀x,1≤f x)(L:Sl α){n:Nat}(h:L.size f≤n):L.l.length≤n:=Nat.le_trans (Yw f hf L.l) h
theorem Xn{V W:World}{z:ZA}{a:Addr}{cs:List Value}(hz:W=plus V z)(h:ZG V a cs):ZG W a cs:=by rw[hz];exact h.plus z
def XN(l:List Hr)(s:ByteArray):Int:=Y1 (fun x=>x.name.toList==s.toList) l 0
def X1(l:List Fd)(s:ByteArray):Int:=Y1 (fun x=>x.name.toList==s.toList) l 0
theorem Hz(p1 n1 c1 p2 n2 c2 p3 n3 c3 p4 n4 c4 p5 n5 c5 p6 n6 c6)(K:Hr→Prop)(A:Sl Hr)(nm)(w:World)(hA:A.In w 2 Hr.cells K)(hl:A.l.length≤1048576):Kp Zr w 146 #[.agg #[A.v,.slice p1 n1 c1,.slice p2 n2 c2,.slice p3 n3 c3,.slice p4 n4 c4,.slice p5 n5 c5,.slice p6 n6 c6],.string nm] (.int .i64 (XN A.l nm)):=by
 intro y0;have hA:=hA.plus (fun _ a=>a) y0;obtain⟨V,hV⟩:=Zv (plus w y0);rw[hV]at hA ⊢;clear hV;have ZR:=Zg hA;have ZX:=Zg hl;clear hA hl;obtain⟨ap,ac,al⟩:=A;simp only[Sl.v];obtain⟨n,hn⟩:=Zv al.length;rw[hn];have ZJ:=Zg hn;clear hn;go_enter func146,ntmps146;go_upto_region 1 with (fail)
 obtain⟨W,yy,hW,⟨z,hz⟩,ca,cb⟩:=ZF V _ _ 76 9;rw[hW];have b0:=ca 0 _ rfl;have d0:=cb 0 _ rfl ⟨#[],W.drawn⟩;rw[ZK]at d0;have VI:=(M1 Hr.cells GS (fun x=>x.name.toList==nm.toList) 160 #[] #[.pointer (some ⟨V.heap.size+1,0,none⟩)] K W ⟨ap,ac,al⟩ (by rw[hz];exact ZR.out.plus (fun _ a=>a) z) ZX.out (enters_of func160 (by kernel_rfl) rfl) (fun x _=>LX (V.heap.size+1) nm _ _ _ _ W d0)).pure;simp only[Sl.v]at VI;rw[ZJ.out]at VI;have hc:=Zg VI;have Ym:=Zg hz;clear hW hz ca cb d0 VI ZR ZX ZJ;go_wp2_with (first|(go_at_call 159;with_reducible refine (hc.out _).mono ?_;rintro r w' ⟨rfl,x,rfl⟩));go_ret;exact⟨rfl,by rw[Ym.out,Zx];exact⟨_,rfl⟩⟩
theorem Qg(K:Fd→Prop)(A:Sl Fd)(nm)(w:World)(hA:A.In w 2 Fd.cells K)(hl:A.l.length≤1048576):Kp Zr w 145 #[A.v,.string nm] (.int .i64 (X1 A.l nm)):=by
 intro y0;have hA:=hA.plus (fun _ a=>a) y0;obtain⟨V,hV⟩:=Zv (plus w y0);rw[hV]at hA ⊢;clear hV;have ZR:=Zg hA;have ZX:=Zg hl;clear hA hl;obtain⟨ap,ac,al⟩:=A;simp only[Sl.v];obtain⟨n,hn⟩:=Zv al.length;rw[hn];have ZJ:=Zg hn;clear hn;go_enter func145,ntmps145;go_upto_region 1 with (fail)
 obtain⟨W,yy,hW,⟨z,hz⟩,cb⟩:=Ya V _ 9;rw[hW];have d0:=cb 0 _ rfl ⟨#[],W.drawn⟩;rw[ZK]at d0;have VI:=(M0 Fd.cells GR (fun x=>x.name.toList==nm.toList) 158 #[] #[.pointer (some ⟨V.heap.size,0,none⟩)] K W ⟨ap,ac,al⟩ (by rw[hz];exact ZR.out.plus (fun _ a=>a) z) ZX.out (enters_of func158 (by kernel_rfl) rfl) (fun x _=>LV V.heap.size nm _ _ W d0)).pure;simp only[Sl.v]at VI;rw[ZJ.out]at VI;have hc:=Zg VI;have Ym:=Zg hz;clear hW hz cb d0 VI ZR ZX ZJ;go_wp2_with (first|(go_at_call 157;with_reducible refine (hc.out _).mono ?_;rintro r w' ⟨rfl,x,rfl⟩));go_ret;exact⟨rfl,by rw[Ym.out,Zx];exact⟨_,rfl⟩⟩
theorem HA(p0 n0 c0 p2 n2 c2 p3 n3 c3 p4 n4 c4 p5 n5 c5 p6 n6 c6)(K:Fd→Prop)(A:Sl Fd)(nm)(w:World)(hA:A.In w 2 Fd.cells K)(hl:A.l.length≤1048576):Kp Zr w 144 #[.agg #[.slice p0 n0 c0,A.v,.slice p2 n2 c2,.slice p3 n3 c3,.slice p4 n4 c4,.slice p5 n5 c5,.slice p6 n6 c6],.string nm] (.int .i64 (X1 A.l nm)):=by
 intro y0;have hc:=(Qg K A nm w hA hl).up y0;obtain⟨V,hV⟩:=Zv (plus w y0);rw[hV]at hc ⊢;clear hV hA hl;obtain⟨ap,ac,al⟩:=A;simp only[Sl.v]at hc ⊢;obtain⟨n,hn⟩:=Zv al.length;rw[hn]at hc ⊢;have Vb:=Zg hc;clear hn hc;go_enter func144,ntmps144;go_upto_region 1 with (fail)
 obtain⟨W,yy,hW,⟨z,hz⟩,ca⟩:=Ya V _ 76;rw[hW];have b1:=ca 1 _ rfl;have qc:=Zg (Zy hz Vb.out);have Ym:=Zg hz;clear hW hz ca Vb;go_wp2_with (first|(go_at_call 145;with_reducible refine (qc.out _).mono ?_;rintro r w' ⟨rfl,x,rfl⟩));go_ret;exact⟨rfl,by rw[Ym.out,Zx];exact⟨_,rfl⟩⟩
end Go.Proofs.YtheaknidbcbneaaGreat
