/-
  WHAT IS PROVED HERE: a part of the proof (made narrower and merged by program; the parts: Loy Loz).
-/
import Derived.Test.YtheaknidbcbneaaGreatM15
import Derived.Test.YtheaknidbcbneaaGreatM11
set_option maxRecDepth 100000
set_option maxHeartbeats 8000000
set_option linter.all false
namespace Go.Proofs.YtheaknidbcbneaaGreat
open Go.RowKit Go.Proofs.Tryz
open Bool renaming and_eq_true→Zd,true_and→Ze
open Ending renaming returned→Zf
open Lib renaming hid→Zg
open List renaming getElem?_eq_some_iff→Zj,mem_of_getElem?→Zl
open Nat renaming le_refl→Zp
open Go.Proofs.Tryz renaming prog→Zr
open Value renaming bool→Zs
open Go.RowKit
theorem K4(q0p q0n q0c q1p q1n q1c q2p q2n q2c q3p q3n q3c q4p q4n q4c q5p q5n q5c q6p q6n q6c q7p q7n q7c q8p q8n q8c q9p q9n q9c q10p q10n q10c q11p q11n q11c)(mr:Nat)(n act kd ia ib ep en ec it)(c0 c1 c2:Nat)(lp ln lc)(w:World)(hc:ZG w ⟨c0,0,none⟩ [.slice q0p q0n q0c,.slice q1p q1n q1c,.slice q2p q2n q2c,.slice q3p q3n q3c,.slice q4p q4n q4c,.slice q5p q5n q5c,.slice q6p q6n q6c,.slice q7p q7n q7c,.slice q8p q8n q8c,.slice q9p q9n q9c,.slice q10p q10n q10c,.slice q11p q11n q11c,.map (some mr)])(ha:ZG w ⟨c1,0,none⟩ [.int .i64 act])(hs:ZG w ⟨c2,0,none⟩ [.slice lp ln lc])(h0:Kp Zr w 95 #[.agg #[.slice q0p q0n q0c,.slice q1p q1n q1c,.slice q2p q2n q2c,.slice q3p q3n q3c,.slice q4p q4n q4c,.slice q5p q5n q5c,.slice q6p q6n q6c,.slice q7p q7n q7c,.slice q8p q8n q8c,.slice q9p q9n q9c,.slice q10p q10n q10c,.slice q11p q11n q11c,.map (some mr)],.int .i64 act,.agg #[.int .u8 kd,.int .i64 ia,.int .i64 ib,.slice ep en ec,.int .i64 it]] (.bool false)) :
  Kp Zr w 94 #[.int .i64 n,.agg #[.int .u8 kd,.int .i64 ia,.int .i64 ib,.slice ep en ec,.int .i64 it],.pointer (some ⟨c0,0,none⟩),.pointer (some ⟨c1,0,none⟩),.pointer (some ⟨c2,0,none⟩)] (.bool (false)):=by
 intro y0;have h0:=h0.up y0;have hc:=hc.plus y0;have ha:=ha.plus y0;have hs:=hs.plus y0;obtain⟨V,hV⟩:=Zv (plus w y0);rw[hV]at h0 hc ha hs ⊢;clear hV;have dc0h:V.cell? ⟨c0,0,none⟩=some (.slice q0p q0n q0c):=by have:=hc 0 _ rfl;rw[Addr.add_lit]at this;simpa using this
 have dc0:∀o,(V.alloc o).cell? ⟨c0,0,none⟩=some (.slice q0p q0n q0c):=fun o=>ZL dc0h o;have dc1h:V.cell? ⟨c0,1,none⟩=some (.slice q1p q1n q1c):=by have:=hc 1 _ rfl;rw[Addr.add_lit]at this;simpa using this
 have dc1:∀o,(V.alloc o).cell? ⟨c0,1,none⟩=some (.slice q1p q1n q1c):=fun o=>ZL dc1h o;have dc2h:V.cell? ⟨c0,2,none⟩=some (.slice q2p q2n q2c):=by have:=hc 2 _ rfl;rw[Addr.add_lit]at this;simpa using this
 have dc2:∀o,(V.alloc o).cell? ⟨c0,2,none⟩=some (.slice q2p q2n q2c):=fun o=>ZL dc2h o;have dc3h:V.cell? ⟨c0,3,none⟩=some (.slice q3p q3n q3c):=by have:=hc 3 _ rfl;rw[Addr.add_lit]at this;simpa using this
 have dc3:∀o,(V.alloc o).cell? ⟨c0,3,none⟩=some (.slice q3p q3n q3c):=fun o=>ZL dc3h o;have dc4h:V.cell? ⟨c0,4,none⟩=some (.slice q4p q4n q4c):=by have:=hc 4 _ rfl;rw[Addr.add_lit]at this;simpa using this
 have dc4:∀o,(V.alloc o).cell? ⟨c0,4,none⟩=some (.slice q4p q4n q4c):=fun o=>ZL dc4h o;have dc5h:V.cell? ⟨c0,5,none⟩=some (.slice q5p q5n q5c):=by have:=hc 5 _ rfl;rw[Addr.add_lit]at this;simpa using this
 have dc5:∀o,(V.alloc o).cell? ⟨c0,5,none⟩=some (.slice q5p q5n q5c):=fun o=>ZL dc5h o;have dc6h:V.cell? ⟨c0,6,none⟩=some (.slice q6p q6n q6c):=by have:=hc 6 _ rfl;rw[Addr.add_lit]at this;simpa using this
 have dc6:∀o,(V.alloc o).cell? ⟨c0,6,none⟩=some (.slice q6p q6n q6c):=fun o=>ZL dc6h o;have dc7h:V.cell? ⟨c0,7,none⟩=some (.slice q7p q7n q7c):=by have:=hc 7 _ rfl;rw[Addr.add_lit]at this;simpa using this
 have dc7:∀o,(V.alloc o).cell? ⟨c0,7,none⟩=some (.slice q7p q7n q7c):=fun o=>ZL dc7h o;have dc8h:V.cell? ⟨c0,8,none⟩=some (.slice q8p q8n q8c):=by have:=hc 8 _ rfl;rw[Addr.add_lit]at this;simpa using this
 have dc8:∀o,(V.alloc o).cell? ⟨c0,8,none⟩=some (.slice q8p q8n q8c):=fun o=>ZL dc8h o;have dc9h:V.cell? ⟨c0,9,none⟩=some (.slice q9p q9n q9c):=by have:=hc 9 _ rfl;rw[Addr.add_lit]at this;simpa using this
 have dc9:∀o,(V.alloc o).cell? ⟨c0,9,none⟩=some (.slice q9p q9n q9c):=fun o=>ZL dc9h o;have dc10h:V.cell? ⟨c0,10,none⟩=some (.slice q10p q10n q10c):=by have:=hc 10 _ rfl;rw[Addr.add_lit]at this;simpa using this
 have dc10:∀o,(V.alloc o).cell? ⟨c0,10,none⟩=some (.slice q10p q10n q10c):=fun o=>ZL dc10h o;have dc11h:V.cell? ⟨c0,11,none⟩=some (.slice q11p q11n q11c):=by have:=hc 11 _ rfl;rw[Addr.add_lit]at this;simpa using this
 have dc11:∀o,(V.alloc o).cell? ⟨c0,11,none⟩=some (.slice q11p q11n q11c):=fun o=>ZL dc11h o;have dc12h:V.cell? ⟨c0,12,none⟩=some (.map (some mr)):=by have:=hc 12 _ rfl;rw[Addr.add_lit]at this;simpa using this
 have dc12:∀o,(V.alloc o).cell? ⟨c0,12,none⟩=some (.map (some mr)):=fun o=>ZL dc12h o;have da0h:V.cell? ⟨c1,0,none⟩=some (.int .i64 act):=by have:=ha 0 _ rfl;rw[Addr.add_lit]at this;simpa using this
 have da0:∀o,(V.alloc o).cell? ⟨c1,0,none⟩=some (.int .i64 act):=fun o=>ZL da0h o;have ds0h:V.cell? ⟨c2,0,none⟩=some (.slice lp ln lc):=by have:=hs 0 _ rfl;rw[Addr.add_lit]at this;simpa using this
 have ds0:∀o,(V.alloc o).cell? ⟨c2,0,none⟩=some (.slice lp ln lc):=fun o=>ZL ds0h o;obtain⟨R,hR⟩:=Zv (false);rw[hR];have hF:=Zg (show (false)=R by first|exact hR|(rw[←hR];simp));clear hR;have h0:=Zg h0;go_enter func94,ntmps94;go_wp2_with fail;obtain⟨W,yy,hW,⟨z,hz⟩,cb0⟩:=Ya V _ 99;rw[hW];have c0_0:=cb0 0 _ rfl;have c0_1:=cb0 1 _ rfl;have c0_2:=cb0 2 _ rfl;have c0_3:=cb0 3 _ rfl;have c0_4:=cb0 4 _ rfl;have u0c:=Zg (Zy hz h0.out);have dc0x:∀y,(Go.Proofs.YtheaknidbcbneaaGreat.plus W y).cell? ⟨c0,0,none⟩=some (.slice q0p q0n q0c):=fun y=>by rw[hz];exact ZC (ZC dc0h z) y
 have dc1x:∀y,(Go.Proofs.YtheaknidbcbneaaGreat.plus W y).cell? ⟨c0,1,none⟩=some (.slice q1p q1n q1c):=fun y=>by rw[hz];exact ZC (ZC dc1h z) y
 have dc2x:∀y,(Go.Proofs.YtheaknidbcbneaaGreat.plus W y).cell? ⟨c0,2,none⟩=some (.slice q2p q2n q2c):=fun y=>by rw[hz];exact ZC (ZC dc2h z) y
 have dc3x:∀y,(Go.Proofs.YtheaknidbcbneaaGreat.plus W y).cell? ⟨c0,3,none⟩=some (.slice q3p q3n q3c):=fun y=>by rw[hz];exact ZC (ZC dc3h z) y
 have dc4x:∀y,(Go.Proofs.YtheaknidbcbneaaGreat.plus W y).cell? ⟨c0,4,none⟩=some (.slice q4p q4n q4c):=fun y=>by rw[hz];exact ZC (ZC dc4h z) y
 have dc5x:∀y,(Go.Proofs.YtheaknidbcbneaaGreat.plus W y).cell? ⟨c0,5,none⟩=some (.slice q5p q5n q5c):=fun y=>by rw[hz];exact ZC (ZC dc5h z) y
 have dc6x:∀y,(Go.Proofs.YtheaknidbcbneaaGreat.plus W y).cell? ⟨c0,6,none⟩=some (.slice q6p q6n q6c):=fun y=>by rw[hz];exact ZC (ZC dc6h z) y
 have dc7x:∀y,(Go.Proofs.YtheaknidbcbneaaGreat.plus W y).cell? ⟨c0,7,none⟩=some (.slice q7p q7n q7c):=fun y=>by rw[hz];exact ZC (ZC dc7h z) y
 have dc8x:∀y,(Go.Proofs.YtheaknidbcbneaaGreat.plus W y).cell? ⟨c0,8,none⟩=some (.slice q8p q8n q8c):=fun y=>by rw[hz];exact ZC (ZC dc8h z) y
 have dc9x:∀y,(Go.Proofs.YtheaknidbcbneaaGreat.plus W y).cell? ⟨c0,9,none⟩=some (.slice q9p q9n q9c):=fun y=>by rw[hz];exact ZC (ZC dc9h z) y
 have dc10x:∀y,(Go.Proofs.YtheaknidbcbneaaGreat.plus W y).cell? ⟨c0,10,none⟩=some (.slice q10p q10n q10c):=fun y=>by rw[hz];exact ZC (ZC dc10h z) y
 have dc11x:∀y,(Go.Proofs.YtheaknidbcbneaaGreat.plus W y).cell? ⟨c0,11,none⟩=some (.slice q11p q11n q11c):=fun y=>by rw[hz];exact ZC (ZC dc11h z) y
 have dc12x:∀y,(Go.Proofs.YtheaknidbcbneaaGreat.plus W y).cell? ⟨c0,12,none⟩=some (.map (some mr)):=fun y=>by rw[hz];exact ZC (ZC dc12h z) y
 have da0x:∀y,(Go.Proofs.YtheaknidbcbneaaGreat.plus W y).cell? ⟨c1,0,none⟩=some (.int .i64 act):=fun y=>by rw[hz];exact ZC (ZC da0h z) y
 have ds0x:∀y,(Go.Proofs.YtheaknidbcbneaaGreat.plus W y).cell? ⟨c2,0,none⟩=some (.slice lp ln lc):=fun y=>by rw[hz];exact ZC (ZC ds0h z) y
 clear hc ha hs;have Zw:=Zg hz;clear hW hz cb0;refine (u0c.out _).mono ?_;rintro r w' ⟨rfl,x1,rfl⟩;go_wp2_with fail;go_ret;exact⟨congrArg (fun z=>Zf (Zs z)) hF.out,by rw[Zw.out,Zx];exact⟨_,rfl⟩⟩
theorem K5(q0p q0n q0c q1p q1n q1c q2p q2n q2c q3p q3n q3c q4p q4n q4c q5p q5n q5c q6p q6n q6c q7p q7n q7c q8p q8n q8c q9p q9n q9c q10p q10n q10c q11p q11n q11c)(mr:Nat)(n act kd ia ib ep en ec it)(c0 c1 c2:Nat)(lp ln lc s1 s2)(w:World)(hc:ZG w ⟨c0,0,none⟩ [.slice q0p q0n q0c,.slice q1p q1n q1c,.slice q2p q2n q2c,.slice q3p q3n q3c,.slice q4p q4n q4c,.slice q5p q5n q5c,.slice q6p q6n q6c,.slice q7p q7n q7c,.slice q8p q8n q8c,.slice q9p q9n q9c,.slice q10p q10n q10c,.slice q11p q11n q11c,.map (some mr)])(ha:ZG w ⟨c1,0,none⟩ [.int .i64 act])(hs:ZG w ⟨c2,0,none⟩ [.slice lp ln lc])(h0:Kp Zr w 95 #[.agg #[.slice q0p q0n q0c,.slice q1p q1n q1c,.slice q2p q2n q2c,.slice q3p q3n q3c,.slice q4p q4n q4c,.slice q5p q5n q5c,.slice q6p q6n q6c,.slice q7p q7n q7c,.slice q8p q8n q8c,.slice q9p q9n q9c,.slice q10p q10n q10c,.slice q11p q11n q11c,.map (some mr)],.int .i64 act,.agg #[.int .u8 kd,.int .i64 ia,.int .i64 ib,.slice ep en ec,.int .i64 it]] (.bool true))(h1:Kp Zr w 96 #[.agg #[.int .u8 kd,.int .i64 ia,.int .i64 ib,.slice ep en ec,.int .i64 it],.int .i64 n,.int .i64 (ln:Int)] (.bool s1))(h2:Kp Zr w 97 #[.agg #[.slice q0p q0n q0c,.slice q1p q1n q1c,.slice q2p q2n q2c,.slice q3p q3n q3c,.slice q4p q4n q4c,.slice q5p q5n q5c,.slice q6p q6n q6c,.slice q7p q7n q7c,.slice q8p q8n q8c,.slice q9p q9n q9c,.slice q10p q10n q10c,.slice q11p q11n q11c,.map (some mr)],.int .i64 act,.agg #[.int .u8 kd,.int .i64 ia,.int .i64 ib,.slice ep en ec,.int .i64 it]] (.bool s2)) :
  Kp Zr w 94 #[.int .i64 n,.agg #[.int .u8 kd,.int .i64 ia,.int .i64 ib,.slice ep en ec,.int .i64 it],.pointer (some ⟨c0,0,none⟩),.pointer (some ⟨c1,0,none⟩),.pointer (some ⟨c2,0,none⟩)] (.bool (s1&&s2)):=by
 intro y0;have h0:=h0.up y0;have h1:=h1.up y0;have h2:=h2.up y0;have hc:=hc.plus y0;have ha:=ha.plus y0;have hs:=hs.plus y0;obtain⟨V,hV⟩:=Zv (plus w y0);rw[hV]at h0 h1 h2 hc ha hs ⊢;clear hV;have dc0h:V.cell? ⟨c0,0,none⟩=some (.slice q0p q0n q0c):=by have:=hc 0 _ rfl;rw[Addr.add_lit]at this;simpa using this
 have dc0:∀o,(V.alloc o).cell? ⟨c0,0,none⟩=some (.slice q0p q0n q0c):=fun o=>ZL dc0h o;have dc1h:V.cell? ⟨c0,1,none⟩=some (.slice q1p q1n q1c):=by have:=hc 1 _ rfl;rw[Addr.add_lit]at this;simpa using this
 have dc1:∀o,(V.alloc o).cell? ⟨c0,1,none⟩=some (.slice q1p q1n q1c):=fun o=>ZL dc1h o;have dc2h:V.cell? ⟨c0,2,none⟩=some (.slice q2p q2n q2c):=by have:=hc 2 _ rfl;rw[Addr.add_lit]at this;simpa using this
 have dc2:∀o,(V.alloc o).cell? ⟨c0,2,none⟩=some (.slice q2p q2n q2c):=fun o=>ZL dc2h o;have dc3h:V.cell? ⟨c0,3,none⟩=some (.slice q3p q3n q3c):=by have:=hc 3 _ rfl;rw[Addr.add_lit]at this;simpa using this
 have dc3:∀o,(V.alloc o).cell? ⟨c0,3,none⟩=some (.slice q3p q3n q3c):=fun o=>ZL dc3h o;have dc4h:V.cell? ⟨c0,4,none⟩=some (.slice q4p q4n q4c):=by have:=hc 4 _ rfl;rw[Addr.add_lit]at this;simpa using this
 have dc4:∀o,(V.alloc o).cell? ⟨c0,4,none⟩=some (.slice q4p q4n q4c):=fun o=>ZL dc4h o;have dc5h:V.cell? ⟨c0,5,none⟩=some (.slice q5p q5n q5c):=by have:=hc 5 _ rfl;rw[Addr.add_lit]at this;simpa using this
 have dc5:∀o,(V.alloc o).cell? ⟨c0,5,none⟩=some (.slice q5p q5n q5c):=fun o=>ZL dc5h o;have dc6h:V.cell? ⟨c0,6,none⟩=some (.slice q6p q6n q6c):=by have:=hc 6 _ rfl;rw[Addr.add_lit]at this;simpa using this
 have dc6:∀o,(V.alloc o).cell? ⟨c0,6,none⟩=some (.slice q6p q6n q6c):=fun o=>ZL dc6h o;have dc7h:V.cell? ⟨c0,7,none⟩=some (.slice q7p q7n q7c):=by have:=hc 7 _ rfl;rw[Addr.add_lit]at this;simpa using this
 have dc7:∀o,(V.alloc o).cell? ⟨c0,7,none⟩=some (.slice q7p q7n q7c):=fun o=>ZL dc7h o;have dc8h:V.cell? ⟨c0,8,none⟩=some (.slice q8p q8n q8c):=by have:=hc 8 _ rfl;rw[Addr.add_lit]at this;simpa using this
 have dc8:∀o,(V.alloc o).cell? ⟨c0,8,none⟩=some (.slice q8p q8n q8c):=fun o=>ZL dc8h o;have dc9h:V.cell? ⟨c0,9,none⟩=some (.slice q9p q9n q9c):=by have:=hc 9 _ rfl;rw[Addr.add_lit]at this;simpa using this
 have dc9:∀o,(V.alloc o).cell? ⟨c0,9,none⟩=some (.slice q9p q9n q9c):=fun o=>ZL dc9h o;have dc10h:V.cell? ⟨c0,10,none⟩=some (.slice q10p q10n q10c):=by have:=hc 10 _ rfl;rw[Addr.add_lit]at this;simpa using this
 have dc10:∀o,(V.alloc o).cell? ⟨c0,10,none⟩=some (.slice q10p q10n q10c):=fun o=>ZL dc10h o;have dc11h:V.cell? ⟨c0,11,none⟩=some (.slice q11p q11n q11c):=by have:=hc 11 _ rfl;rw[Addr.add_lit]at this;simpa using this
 have dc11:∀o,(V.alloc o).cell? ⟨c0,11,none⟩=some (.slice q11p q11n q11c):=fun o=>ZL dc11h o;have dc12h:V.cell? ⟨c0,12,none⟩=some (.map (some mr)):=by have:=hc 12 _ rfl;rw[Addr.add_lit]at this;simpa using this
 have dc12:∀o,(V.alloc o).cell? ⟨c0,12,none⟩=some (.map (some mr)):=fun o=>ZL dc12h o;have da0h:V.cell? ⟨c1,0,none⟩=some (.int .i64 act):=by have:=ha 0 _ rfl;rw[Addr.add_lit]at this;simpa using this
 have da0:∀o,(V.alloc o).cell? ⟨c1,0,none⟩=some (.int .i64 act):=fun o=>ZL da0h o;have ds0h:V.cell? ⟨c2,0,none⟩=some (.slice lp ln lc):=by have:=hs 0 _ rfl;rw[Addr.add_lit]at this;simpa using this
 have ds0:∀o,(V.alloc o).cell? ⟨c2,0,none⟩=some (.slice lp ln lc):=fun o=>ZL ds0h o;obtain⟨R,hR⟩:=Zv (s1&&s2);rw[hR];cases s1
 case false =>
  have hF:=Zg (show (false)=R by first|exact hR|(rw[←hR];simp));clear hR;clear h2;have h0:=Zg h0;have h1:=Zg h1;go_enter func94,ntmps94;go_wp2_with fail;obtain⟨W,yy,hW,⟨z,hz⟩,cb0⟩:=Ya V _ 99;rw[hW];have c0_0:=cb0 0 _ rfl;have c0_1:=cb0 1 _ rfl;have c0_2:=cb0 2 _ rfl;have c0_3:=cb0 3 _ rfl;have c0_4:=cb0 4 _ rfl;have u0c:=Zg (Zy hz h0.out);have u1c:=Zg (Zy hz h1.out);have dc0x:∀y,(Go.Proofs.YtheaknidbcbneaaGreat.plus W y).cell? ⟨c0,0,none⟩=some (.slice q0p q0n q0c):=fun y=>by rw[hz];exact ZC (ZC dc0h z) y
  have dc1x:∀y,(Go.Proofs.YtheaknidbcbneaaGreat.plus W y).cell? ⟨c0,1,none⟩=some (.slice q1p q1n q1c):=fun y=>by rw[hz];exact ZC (ZC dc1h z) y
  have dc2x:∀y,(Go.Proofs.YtheaknidbcbneaaGreat.plus W y).cell? ⟨c0,2,none⟩=some (.slice q2p q2n q2c):=fun y=>by rw[hz];exact ZC (ZC dc2h z) y
  have dc3x:∀y,(Go.Proofs.YtheaknidbcbneaaGreat.plus W y).cell? ⟨c0,3,none⟩=some (.slice q3p q3n q3c):=fun y=>by rw[hz];exact ZC (ZC dc3h z) y
  have dc4x:∀y,(Go.Proofs.YtheaknidbcbneaaGreat.plus W y).cell? ⟨c0,4,none⟩=some (.slice q4p q4n q4c):=fun y=>by rw[hz];exact ZC (ZC dc4h z) y
  have dc5x:∀y,(Go.Proofs.YtheaknidbcbneaaGreat.plus W y).cell? ⟨c0,5,none⟩=some (.slice q5p q5n q5c):=fun y=>by rw[hz];exact ZC (ZC dc5h z) y
  have dc6x:∀y,(Go.Proofs.YtheaknidbcbneaaGreat.plus W y).cell? ⟨c0,6,none⟩=some (.slice q6p q6n q6c):=fun y=>by rw[hz];exact ZC (ZC dc6h z) y
  have dc7x:∀y,(Go.Proofs.YtheaknidbcbneaaGreat.plus W y).cell? ⟨c0,7,none⟩=some (.slice q7p q7n q7c):=fun y=>by rw[hz];exact ZC (ZC dc7h z) y
  have dc8x:∀y,(Go.Proofs.YtheaknidbcbneaaGreat.plus W y).cell? ⟨c0,8,none⟩=some (.slice q8p q8n q8c):=fun y=>by rw[hz];exact ZC (ZC dc8h z) y
  have dc9x:∀y,(Go.Proofs.YtheaknidbcbneaaGreat.plus W y).cell? ⟨c0,9,none⟩=some (.slice q9p q9n q9c):=fun y=>by rw[hz];exact ZC (ZC dc9h z) y
  have dc10x:∀y,(Go.Proofs.YtheaknidbcbneaaGreat.plus W y).cell? ⟨c0,10,none⟩=some (.slice q10p q10n q10c):=fun y=>by rw[hz];exact ZC (ZC dc10h z) y
  have dc11x:∀y,(Go.Proofs.YtheaknidbcbneaaGreat.plus W y).cell? ⟨c0,11,none⟩=some (.slice q11p q11n q11c):=fun y=>by rw[hz];exact ZC (ZC dc11h z) y
  have dc12x:∀y,(Go.Proofs.YtheaknidbcbneaaGreat.plus W y).cell? ⟨c0,12,none⟩=some (.map (some mr)):=fun y=>by rw[hz];exact ZC (ZC dc12h z) y
  have da0x:∀y,(Go.Proofs.YtheaknidbcbneaaGreat.plus W y).cell? ⟨c1,0,none⟩=some (.int .i64 act):=fun y=>by rw[hz];exact ZC (ZC da0h z) y
  have ds0x:∀y,(Go.Proofs.YtheaknidbcbneaaGreat.plus W y).cell? ⟨c2,0,none⟩=some (.slice lp ln lc):=fun y=>by rw[hz];exact ZC (ZC ds0h z) y
  clear hc ha hs;have Zw:=Zg hz;clear hW hz cb0;refine (u0c.out _).mono ?_;rintro r w' ⟨rfl,x1,rfl⟩;go_wp2_with (first|(go_at_call 96;with_reducible refine (u1c.out _).mono ?_;rintro r w' ⟨rfl,x,rfl⟩));go_ret;exact⟨congrArg (fun z=>Zf (Zs z)) hF.out,by rw[Zw.out,Zx];exact⟨_,rfl⟩⟩
 case true =>
  cases s2
  case false =>
   have hF:=Zg (show (false)=R by first|exact hR|(rw[←hR];simp));clear hR;have h0:=Zg h0;have h1:=Zg h1;have h2:=Zg h2;go_enter func94,ntmps94;go_wp2_with fail;obtain⟨W,yy,hW,⟨z,hz⟩,cb0⟩:=Ya V _ 99;rw[hW];have c0_0:=cb0 0 _ rfl;have c0_1:=cb0 1 _ rfl;have c0_2:=cb0 2 _ rfl;have c0_3:=cb0 3 _ rfl;have c0_4:=cb0 4 _ rfl;have u0c:=Zg (Zy hz h0.out);have u1c:=Zg (Zy hz h1.out);have u2c:=Zg (Zy hz h2.out);have dc0x:∀y,(Go.Proofs.YtheaknidbcbneaaGreat.plus W y).cell? ⟨c0,0,none⟩=some (.slice q0p q0n q0c):=fun y=>by rw[hz];exact ZC (ZC dc0h z) y
   have dc1x:∀y,(Go.Proofs.YtheaknidbcbneaaGreat.plus W y).cell? ⟨c0,1,none⟩=some (.slice q1p q1n q1c):=fun y=>by rw[hz];exact ZC (ZC dc1h z) y
   have dc2x:∀y,(Go.Proofs.YtheaknidbcbneaaGreat.plus W y).cell? ⟨c0,2,none⟩=some (.slice q2p q2n q2c):=fun y=>by rw[hz];exact ZC (ZC dc2h z) y
   have dc3x:∀y,(Go.Proofs.YtheaknidbcbneaaGreat.plus W y).cell? ⟨c0,3,none⟩=some (.slice q3p q3n q3c):=fun y=>by rw[hz];exact ZC (ZC dc3h z) y
   have dc4x:∀y,(Go.Proofs.YtheaknidbcbneaaGreat.plus W y).cell? ⟨c0,4,none⟩=some (.slice q4p q4n q4c):=fun y=>by rw[hz];exact ZC (ZC dc4h z) y
   have dc5x:∀y,(Go.Proofs.YtheaknidbcbneaaGreat.plus W y).cell? ⟨c0,5,none⟩=some (.slice q5p q5n q5c):=fun y=>by rw[hz];exact ZC (ZC dc5h z) y
   have dc6x:∀y,(Go.Proofs.YtheaknidbcbneaaGreat.plus W y).cell? ⟨c0,6,none⟩=some (.slice q6p q6n q6c):=fun y=>by rw[hz];exact ZC (ZC dc6h z) y
   have dc7x:∀y,(Go.Proofs.YtheaknidbcbneaaGreat.plus W y).cell? ⟨c0,7,none⟩=some (.slice q7p q7n q7c):=fun y=>by rw[hz];exact ZC (ZC dc7h z) y
   have dc8x:∀y,(Go.Proofs.YtheaknidbcbneaaGreat.plus W y).cell? ⟨c0,8,none⟩=some (.slice q8p q8n q8c):=fun y=>by rw[hz];exact ZC (ZC dc8h z) y
   have dc9x:∀y,(Go.Proofs.YtheaknidbcbneaaGreat.plus W y).cell? ⟨c0,9,none⟩=some (.slice q9p q9n q9c):=fun y=>by rw[hz];exact ZC (ZC dc9h z) y
   have dc10x:∀y,(Go.Proofs.YtheaknidbcbneaaGreat.plus W y).cell? ⟨c0,10,none⟩=some (.slice q10p q10n q10c):=fun y=>by rw[hz];exact ZC (ZC dc10h z) y
   have dc11x:∀y,(Go.Proofs.YtheaknidbcbneaaGreat.plus W y).cell? ⟨c0,11,none⟩=some (.slice q11p q11n q11c):=fun y=>by rw[hz];exact ZC (ZC dc11h z) y
   have dc12x:∀y,(Go.Proofs.YtheaknidbcbneaaGreat.plus W y).cell? ⟨c0,12,none⟩=some (.map (some mr)):=fun y=>by rw[hz];exact ZC (ZC dc12h z) y
   have da0x:∀y,(Go.Proofs.YtheaknidbcbneaaGreat.plus W y).cell? ⟨c1,0,none⟩=some (.int .i64 act):=fun y=>by rw[hz];exact ZC (ZC da0h z) y
   have ds0x:∀y,(Go.Proofs.YtheaknidbcbneaaGreat.plus W y).cell? ⟨c2,0,none⟩=some (.slice lp ln lc):=fun y=>by rw[hz];exact ZC (ZC ds0h z) y
   clear hc ha hs;have Zw:=Zg hz;clear hW hz cb0;refine (u0c.out _).mono ?_;rintro r w' ⟨rfl,x1,rfl⟩;go_wp2_with (first|(go_at_call 96;with_reducible refine (u1c.out _).mono ?_;rintro r w' ⟨rfl,x,rfl⟩)|(go_at_call 97;with_reducible refine (u2c.out _).mono ?_;rintro r w' ⟨rfl,x,rfl⟩));go_ret;exact⟨congrArg (fun z=>Zf (Zs z)) hF.out,by rw[Zw.out,Zx];exact⟨_,rfl⟩⟩
  case true =>
   have hF:=Zg (show (true)=R by first|exact hR|(rw[←hR];simp));clear hR;have h0:=Zg h0;have h1:=Zg h1;have h2:=Zg h2;go_enter func94,ntmps94;go_wp2_with fail;obtain⟨W,yy,hW,⟨z,hz⟩,cb0⟩:=Ya V _ 99;rw[hW];have c0_0:=cb0 0 _ rfl;have c0_1:=cb0 1 _ rfl;have c0_2:=cb0 2 _ rfl;have c0_3:=cb0 3 _ rfl;have c0_4:=cb0 4 _ rfl;have u0c:=Zg (Zy hz h0.out);have u1c:=Zg (Zy hz h1.out);have u2c:=Zg (Zy hz h2.out);have dc0x:∀y,(Go.Proofs.YtheaknidbcbneaaGreat.plus W y).cell? ⟨c0,0,none⟩=some (.slice q0p q0n q0c):=fun y=>by rw[hz];exact ZC (ZC dc0h z) y
   have dc1x:∀y,(Go.Proofs.YtheaknidbcbneaaGreat.plus W y).cell? ⟨c0,1,none⟩=some (.slice q1p q1n q1c):=fun y=>by rw[hz];exact ZC (ZC dc1h z) y
   have dc2x:∀y,(Go.Proofs.YtheaknidbcbneaaGreat.plus W y).cell? ⟨c0,2,none⟩=some (.slice q2p q2n q2c):=fun y=>by rw[hz];exact ZC (ZC dc2h z) y
   have dc3x:∀y,(Go.Proofs.YtheaknidbcbneaaGreat.plus W y).cell? ⟨c0,3,none⟩=some (.slice q3p q3n q3c):=fun y=>by rw[hz];exact ZC (ZC dc3h z) y
   have dc4x:∀y,(Go.Proofs.YtheaknidbcbneaaGreat.plus W y).cell? ⟨c0,4,none⟩=some (.slice q4p q4n q4c):=fun y=>by rw[hz];exact ZC (ZC dc4h z) y
   have dc5x:∀y,(Go.Proofs.YtheaknidbcbneaaGreat.plus W y).cell? ⟨c0,5,none⟩=some (.slice q5p q5n q5c):=fun y=>by rw[hz];exact ZC (ZC dc5h z) y
   have dc6x:∀y,(Go.Proofs.YtheaknidbcbneaaGreat.plus W y).cell? ⟨c0,6,none⟩=some (.slice q6p q6n q6c):=fun y=>by rw[hz];exact ZC (ZC dc6h z) y
   have dc7x:∀y,(Go.Proofs.YtheaknidbcbneaaGreat.plus W y).cell? ⟨c0,7,none⟩=some (.slice q7p q7n q7c):=fun y=>by rw[hz];exact ZC (ZC dc7h z) y
   have dc8x:∀y,(Go.Proofs.YtheaknidbcbneaaGreat.plus W y).cell? ⟨c0,8,none⟩=some (.slice q8p q8n q8c):=fun y=>by rw[hz];exact ZC (ZC dc8h z) y
   have dc9x:∀y,(Go.Proofs.YtheaknidbcbneaaGreat.plus W y).cell? ⟨c0,9,none⟩=some (.slice q9p q9n q9c):=fun y=>by rw[hz];exact ZC (ZC dc9h z) y
   have dc10x:∀y,(Go.Proofs.YtheaknidbcbneaaGreat.plus W y).cell? ⟨c0,10,none⟩=some (.slice q10p q10n q10c):=fun y=>by rw[hz];exact ZC (ZC dc10h z) y
   have dc11x:∀y,(Go.Proofs.YtheaknidbcbneaaGreat.plus W y).cell? ⟨c0,11,none⟩=some (.slice q11p q11n q11c):=fun y=>by rw[hz];exact ZC (ZC dc11h z) y
   have dc12x:∀y,(Go.Proofs.YtheaknidbcbneaaGreat.plus W y).cell? ⟨c0,12,none⟩=some (.map (some mr)):=fun y=>by rw[hz];exact ZC (ZC dc12h z) y
   have da0x:∀y,(Go.Proofs.YtheaknidbcbneaaGreat.plus W y).cell? ⟨c1,0,none⟩=some (.int .i64 act):=fun y=>by rw[hz];exact ZC (ZC da0h z) y
   have ds0x:∀y,(Go.Proofs.YtheaknidbcbneaaGreat.plus W y).cell? ⟨c2,0,none⟩=some (.slice lp ln lc):=fun y=>by rw[hz];exact ZC (ZC ds0h z) y
   clear hc ha hs;have Zw:=Zg hz;clear hW hz cb0;refine (u0c.out _).mono ?_;rintro r w' ⟨rfl,x1,rfl⟩;go_wp2_with (first|(go_at_call 96;with_reducible refine (u1c.out _).mono ?_;rintro r w' ⟨rfl,x,rfl⟩)|(go_at_call 97;with_reducible refine (u2c.out _).mono ?_;rintro r w' ⟨rfl,x,rfl⟩));go_ret;exact⟨congrArg (fun z=>Zf (Zs z)) hF.out,by rw[Zw.out,Zx];exact⟨_,rfl⟩⟩
def YE(n:Int)(len:Nat):Bool:=decide (0≤n)&&decide (n<(len:Int))
def Uc(p:Pg)(a:Int):List Int:=if 0≤a∧a<(p.heads.l.length:Int) then (p.heads.l.map (·.l)).getD a.toNat [] else []
def WJ(p:Pg)(act:Int)(x:ZZ):Bool :=
 if x.kind=1 then YE x.b (Uc p x.a).length
 else if x.kind=2 then YE x.a p.metas.l.length&&(x.b==0)
 else if x.kind=3 then (act==-1)&&(YE x.a p.tabs.l.length&&(x.b==0))
 else if x.kind=6 then YE x.a p.heads.l.length&&((x.b==0)||(x.b==1))
 else if x.kind=4∨x.kind=5∨x.kind=7∨x.kind=8 then (x.a==0)&&(x.b==0)
 else false
def V6(many n:Nat)(x:ZZ):Bool:=if x.kind==7||x.kind==8 then decide ((n:Int)<x.dest)&&decide (x.dest≤(many:Int)) else x.dest==0
def Vg(p:Pg)(act:Int)(x:ZZ):Bool :=
 if x.kind=1 then (YR (p.env act) x.e.l).2&&((YR (p.env act) x.e.l).1==Xb (Uc p x.a) x.b)
 else if x.kind=2 then (YR (p.env act) x.e.l).2&&((YR (p.env act) x.e.l).1==Xb p.metas.l x.a)
 else if x.kind=5 then (YR (p.env act) x.e.l).2&&((YR (p.env act) x.e.l).1==9)
 else if x.kind=7 then (YR (p.env act) x.e.l).2&&((YR (p.env act) x.e.l).1==1)
 else ((x.e.l.length:Int)==0)
def XD(p:Pg)(act:Int)(many n:Nat)(x:ZZ):Bool:=WJ p act x&&(V6 many n x&&Vg p act x)
def ZZ.val(x:ZZ):Value:=.agg #[.int .u8 x.kind,.int .i64 x.a,.int .i64 x.b,x.e.v,.int .i64 x.dest]
theorem Qd{p:Pg}(hz:p.sz≤1048576):p.heads.l.length≤1048576:=by
 have:=Yw (Xk YL) (fun _=>by unfold Xk;omega) p.heads.l;unfold Pg.sz Sl.size at hz;omega
theorem Oh{p:Pg}(hz:p.sz≤1048576):p.metas.l.length≤1048576:=by
 have:=Yw YL (fun _=>Zp _) p.metas.l;unfold Pg.sz Sl.size at hz;omega
theorem JC(p:Pg)(mr:Nat)(act)(x:ZZ)(w:World)(hp:p.In w)(hz:p.sz≤1048576) :
  Kp Zr w 95 #[X0 p mr,.int .i64 act,x.val] (.bool (WJ p act x)):=by
 obtain⟨kd,ia,ib,e,it⟩:=x;by_cases h1:kd=1
 ·subst h1
  obtain⟨s,e1,e2,e3⟩:=QS p.heads.l ia;have h0:=PF p.heads ia _ w hp.heads (Qd hz);rw[e1]at h0;exact (Ju _ _ _ _ _ _ _ _ _ _ _ _ _ _ _ _ _ _ _ _ _ _ _ _ _ _ _ _ _ _ _ _ _ _ _ _ _ act ia ib e.p e.l.length e.cap it s.p s.l.length s.cap _ w h0 (R0 ib s.p s.l.length s.cap w)).eqv (by rw[e2];rfl)
 by_cases h2:kd=2
 ·subst h2
  exact Jv _ _ _ _ _ _ _ _ _ _ _ _ _ _ _ _ _ _ _ _ _ _ _ _ _ _ _ _ _ _ _ _ _ _ _ _ _ act ia ib e.p e.l.length e.cap it _ w (R0 ia p.metas.p p.metas.l.length p.metas.cap w)
 by_cases h3:kd=3
 ·subst h3
  exact Jw _ _ _ _ _ _ _ _ _ _ _ _ _ _ _ _ _ _ _ _ _ _ _ _ _ _ _ _ _ _ _ _ _ _ _ _ _ act ia ib e.p e.l.length e.cap it _ w (K2 ia p.tabs.p p.tabs.l.length p.tabs.cap w)
 by_cases h6:kd=6
 ·subst h6
  exact Jz _ _ _ _ _ _ _ _ _ _ _ _ _ _ _ _ _ _ _ _ _ _ _ _ _ _ _ _ _ _ _ _ _ _ _ _ _ act ia ib e.p e.l.length e.cap it _ w (SH ia p.heads.p p.heads.l.length p.heads.cap w)
 by_cases h4:kd=4
 ·subst h4;exact Jx _ _ _ _ _ _ _ _ _ _ _ _ _ _ _ _ _ _ _ _ _ _ _ _ _ _ _ _ _ _ _ _ _ _ _ _ _ act ia ib e.p e.l.length e.cap it w
 by_cases h5:kd=5
 ·subst h5;exact Jy _ _ _ _ _ _ _ _ _ _ _ _ _ _ _ _ _ _ _ _ _ _ _ _ _ _ _ _ _ _ _ _ _ _ _ _ _ act ia ib e.p e.l.length e.cap it w
 by_cases h7:kd=7
 ·subst h7;exact JA _ _ _ _ _ _ _ _ _ _ _ _ _ _ _ _ _ _ _ _ _ _ _ _ _ _ _ _ _ _ _ _ _ _ _ _ _ act ia ib e.p e.l.length e.cap it w
 by_cases h8:kd=8
 ·subst h8;exact JB _ _ _ _ _ _ _ _ _ _ _ _ _ _ _ _ _ _ _ _ _ _ _ _ _ _ _ _ _ _ _ _ _ _ _ _ _ act ia ib e.p e.l.length e.cap it w
 exact (Jt _ _ _ _ _ _ _ _ _ _ _ _ _ _ _ _ _ _ _ _ _ _ _ _ _ _ _ _ _ _ _ _ _ _ _ _ _ act ia ib e.p e.l.length e.cap it kd w h1 h2 h3 h4 h5 h6 h7 h8).eqv (by simp[WJ,h1,h2,h3,h4,h5,h6,h7,h8])
theorem RW{n:Int}{len:Nat}(h:YE n len=true):∃k:Nat,n=(k:Int)∧k<len:=by
 unfold YE at h;rw[Zd,decide_eq_true_eq,decide_eq_true_eq]at h;exact⟨n.toNat,by omega,by omega⟩
theorem SY{l:List Int}{k:Nat}{x:Int}(h:l[k]?=some x):Xb l (k:Int)=x:=by
 have hk:=(Zj.1 h).1;unfold Xb;rw[if_pos ⟨by omega,by omega⟩,List.getD_eq_getElem?_getD,Int.toNat_natCast,h];rfl
theorem J1(p:Pg)(mr:Nat)(act:Int)(x:ZZ)(w:World)(hp:p.In w)(hz:p.sz≤1048576)(hx:x.In w)(hm:Yf w mr (X9 20))(hn:WJ p act x=true) :
  Kp Zr w 97 #[X0 p mr,.int .i64 act,x.val] (.bool (Vg p act x)):=by
 have hw:=R5 p mr act x.e w hp hz hx.e hm;obtain⟨kd,ia,ib,e,it⟩:=x;by_cases h1:kd=1
 ·subst h1
  obtain⟨j,rfl,hj⟩:=RW (show YE ib (Uc p ia).length=true from hn);by_cases hia:0≤ia∧ia<(p.heads.l.length:Int)
  case neg=>unfold Uc at hj;rw[if_neg hia]at hj;exact absurd hj (Nat.not_lt_zero _)
  obtain⟨k,rfl⟩:∃k:Nat,ia=(k:Int):=⟨ia.toNat,by omega⟩;have hk:k<p.heads.l.length:=by omega
  obtain⟨s,hs⟩:=Z6 p.heads.l k hk;have hr:Uc p (k:Int)=s.l:=by unfold Uc;rw[if_pos hia];simp[hs]
  rw[hr]at hj;obtain⟨y,hy⟩:=Z6 s.l j hj;obtain⟨ha,eha,hd⟩:=hp.heads.row k s hs;obtain⟨fa,efa,he⟩:=(hp.heads.kids s (Zl hs)).row j y hy;rw[Nat.mul_one]at hd he;have hv:Vg p act ⟨1,(k:Int),(j:Int),e,it⟩=((YR (p.env act) e.l).2&&((YR (p.env act) e.l).1==y)):=by
   show ((YR (p.env act) e.l).2&&((YR (p.env act) e.l).1==Xb (Uc p k) j))=_
   rw[hr,SY hy]
  rw[hv];have hd':ZG w (ha.add k) [.slice (some fa) s.l.length s.cap]:=by rw[←efa];exact hd
  have hck:X0 p mr=.agg #[.slice (some ha) p.heads.l.length p.heads.cap,p.metas.v,p.steps.v,p.acts.v,p.tabs.v,p.control.v,p.emit.v,p.names.headers.v,p.names.fields.v,p.names.metas.v,p.names.actions.v,p.names.tables.v,.map (some mr)]:=by rw[←eha];rfl
  rw[hck]at hw ⊢;exact JX _ _ _ _ _ _ _ _ _ _ _ _ _ _ _ _ _ _ _ _ _ _ _ _ _ _ _ _ _ _ _ _ _ _ _ _ act e.p e.l.length e.cap it _ _ _ ha fa k j s.l.length s.cap w hk hj hd' he hw
 by_cases h2:kd=2
 ·subst h2
  have XG:YE ia p.metas.l.length=true:=(Zd _ _▸(show (YE ia p.metas.l.length&&(ib==0))=true from hn):_∧_).1;obtain⟨k,rfl,hk⟩:=RW XG;obtain⟨y,hy⟩:=Z6 p.metas.l k hk;obtain⟨ma,ema,hd⟩:=hp.metas.row k y hy;rw[Nat.mul_one]at hd;have hv:Vg p act ⟨2,(k:Int),ib,e,it⟩=((YR (p.env act) e.l).2&&((YR (p.env act) e.l).1==y)):=by
   show ((YR (p.env act) e.l).2&&((YR (p.env act) e.l).1==Xb p.metas.l k))=_
   rw[SY hy]
  rw[hv];have hck:X0 p mr=.agg #[p.heads.v,.slice (some ma) p.metas.l.length p.metas.cap,p.steps.v,p.acts.v,p.tabs.v,p.control.v,p.emit.v,p.names.headers.v,p.names.fields.v,p.names.metas.v,p.names.actions.v,p.names.tables.v,.map (some mr)]:=by rw[←ema];rfl
  rw[hck]at hw ⊢;exact JY _ _ _ _ _ _ _ _ _ _ _ _ _ _ _ _ _ _ _ _ _ _ _ _ _ _ _ _ _ _ _ _ _ _ _ _ act ib e.p e.l.length e.cap it _ _ _ ma k w hk hd hw
 by_cases h5:kd=5
 ·subst h5;exact JZ _ _ _ _ _ _ _ _ _ _ _ _ _ _ _ _ _ _ _ _ _ _ _ _ _ _ _ _ _ _ _ _ _ _ _ _ _ act ia ib e.p e.l.length e.cap it _ _ w hw
 by_cases h7:kd=7
 ·subst h7;exact J0 _ _ _ _ _ _ _ _ _ _ _ _ _ _ _ _ _ _ _ _ _ _ _ _ _ _ _ _ _ _ _ _ _ _ _ _ _ act ia ib e.p e.l.length e.cap it _ _ w hw
 exact (JW _ _ _ _ _ _ _ _ _ _ _ _ _ _ _ _ _ _ _ _ _ _ _ _ _ _ _ _ _ _ _ _ _ _ _ _ _ act ia ib e.p e.l.length e.cap it kd w h1 h2 h5 h7).eqv (by simp[Vg,h1,h2,h5,h7])
theorem K3(p:Pg)(mr:Nat)(act)(l:Sl ZZ)(n:Nat)(x:ZZ)(w:World)(hp:p.In w)(hz:p.sz≤1048576)(hx:x.In w)(hm:Yf w mr (X9 20))(c0 c1 c2:Nat)(hc:ZG w ⟨c0,0,none⟩ [p.heads.v,p.metas.v,p.steps.v,p.acts.v,p.tabs.v,p.control.v,p.emit.v,p.names.headers.v,p.names.fields.v,p.names.metas.v,p.names.actions.v,p.names.tables.v,.map (some mr)])(ha:ZG w ⟨c1,0,none⟩ [.int .i64 act])(hs:ZG w ⟨c2,0,none⟩ [l.v]) :
  Kp Zr w 94 #[.int .i64 (n:Int),x.val,.pointer (some ⟨c0,0,none⟩),.pointer (some ⟨c1,0,none⟩),.pointer (some ⟨c2,0,none⟩)] (.bool (XD p act l.l.length n x)):=by
 have h0:=JC p mr act x w hp hz;unfold XD;cases hn:WJ p act x with
 | false =>
  rw[hn]at h0;exact K4 _ _ _ _ _ _ _ _ _ _ _ _ _ _ _ _ _ _ _ _ _ _ _ _ _ _ _ _ _ _ _ _ _ _ _ _ _ (n:Int) act x.kind x.a x.b x.e.p x.e.l.length x.e.cap x.dest c0 c1 c2 l.p l.l.length l.cap w hc ha hs h0
 | true =>
  rw[hn]at h0;exact (K5 _ _ _ _ _ _ _ _ _ _ _ _ _ _ _ _ _ _ _ _ _ _ _ _ _ _ _ _ _ _ _ _ _ _ _ _ _ (n:Int) act x.kind x.a x.b x.e.p x.e.l.length x.e.cap x.dest c0 c1 c2 l.p l.l.length l.cap (V6 l.l.length n x) (Vg p act x) w hc ha hs h0 (Ji x.kind x.a x.b x.e.p x.e.l.length x.e.cap x.dest (n:Int) (l.l.length:Int) w) (J1 p mr act x w hp hz hx hm hn)).eqv (by rw[Ze])
theorem WV{W:World}{b:Nat}{cs:List Value}(h:∀j v,cs.toArray[j]?=v→∀y,(plus W y).cell? ⟨b,j,none⟩=v):ZG W ⟨b,0,none⟩ cs:=fun j v hj=>by
 rw[Addr.add_lit,Nat.zero_add];have:=h j _ rfl ⟨#[],W.drawn⟩;rw[ZK]at this;rw[this];simpa using hj
theorem K6(q0p q0n q0c q1p q1n q1c q2p q2n q2c q3p q3n q3c q4p q4n q4c q5p q5n q5c q6p q6n q6c q7p q7n q7c q8p q8n q8c q9p q9n q9c q10p q10n q10c q11p q11n q11c)(mr:Nat)(act lp ln lc b)(w:World)(h:∀(W:World) (c0:Nat),(∃z,W=plus w z)→ZG W ⟨c0,0,none⟩ [.slice q0p q0n q0c,.slice q1p q1n q1c,.slice q2p q2n q2c,.slice q3p q3n q3c,.slice q4p q4n q4c,.slice q5p q5n q5c,.slice q6p q6n q6c,.slice q7p q7n q7c,.slice q8p q8n q8c,.slice q9p q9n q9c,.slice q10p q10n q10c,.slice q11p q11n q11c,.map (some mr)]→ZG W ⟨c0+1,0,none⟩ [.int .i64 act]→ZG W ⟨c0+1+1,0,none⟩ [.slice lp ln lc]→Kp Zr W 93 #[.slice lp ln lc,.int .i64 0,.int .i64 65536,.func (.func 94) #[] #[.pointer (some ⟨c0,0,none⟩),.pointer (some ⟨c0+1,0,none⟩),.pointer (some ⟨c0+1+1,0,none⟩)]] (.bool b)) :
  Kp Zr w 53 #[.agg #[.slice q0p q0n q0c,.slice q1p q1n q1c,.slice q2p q2n q2c,.slice q3p q3n q3c,.slice q4p q4n q4c,.slice q5p q5n q5c,.slice q6p q6n q6c,.slice q7p q7n q7c,.slice q8p q8n q8c,.slice q9p q9n q9c,.slice q10p q10n q10c,.slice q11p q11n q11c,.map (some mr)],.int .i64 act,.slice lp ln lc] (.bool b):=by
 intro y0;obtain⟨V,hV⟩:=Zv (plus w y0);have h:=h;rw[hV];obtain⟨W,hW,ZY,hz,ca,cb,cc,-⟩:=WL V #[.slice q0p q0n q0c,.slice q1p q1n q1c,.slice q2p q2n q2c,.slice q3p q3n q3c,.slice q4p q4n q4c,.slice q5p q5n q5c,.slice q6p q6n q6c,.slice q7p q7n q7c,.slice q8p q8n q8c,.slice q9p q9n q9c,.slice q10p q10n q10c,.slice q11p q11n q11c,.map (some mr)] #[.int .i64 act] #[.slice lp ln lc] 82 3 27;obtain⟨z,hzW⟩:=ZS ZY;have hE:=Zg (h W V.heap.size (by rw[hzW,←hV,Zx];exact⟨_,rfl⟩) (WV ca) (WV cb) (WV cc)).pure;have d0:=cc 0 _ rfl ⟨#[],W.drawn⟩;rw[ZK]at d0;have Zw:=Zg hzW;clear h hV ZY hz ca cb cc hzW;go_enter func53,ntmps53;go_upto_region 1 with (fail)
 rw[←hW];clear hW;go_wp2_with fail;refine (Sr hE.out).mono ?_;rintro r w' ⟨rfl,x1,rfl⟩;go_wp2_with fail;go_ret;exact⟨rfl,by rw[Zw.out,Zx];exact⟨_,rfl⟩⟩
theorem Lu(x:ZZ):OS x.cells:=⟨_,_,_,_,_,_,_,rfl⟩
theorem PI(p:Pg)(mr:Nat)(act)(l:Sl ZZ)(w:World)(hp:p.In w)(hz:p.sz≤1048576)(hm:Yf w mr (X9 20))(hl:l.In w 5 ZZ.cells (ZZ.In w))(hn:l.l.length≤1048576) :
  Kp Zr w 53 #[X0 p mr,.int .i64 act,l.v] (.bool (ZM 0 65536 (XD p act l.l.length) l.l)) :=
 K6 _ _ _ _ _ _ _ _ _ _ _ _ _ _ _ _ _ _ _ _ _ _ _ _ _ _ _ _ _ _ _ _ _ _ _ _ _ act l.p l.l.length l.cap _ w fun W c0 hW hc ha hs=>by
  obtain⟨z,rfl⟩:=hW;have hlW:=hl.plus (fun y (h:ZZ.In w y)=>h.plus z) z;exact MN ZZ.cells Lu (XD p act l.l.length) 94 #[] #[.pointer (some ⟨c0,0,none⟩),.pointer (some ⟨c0+1,0,none⟩),.pointer (some ⟨c0+1+1,0,none⟩)] _ _ l 0 65536 hlW hn (enters_of func94 (by kernel_rfl) rfl) (fun i x hx=>K3 p mr act l i x _ (hp.plus z) hz (hlW.kids x (Zl hx)) (hm.plus z) c0 (c0+1) (c0+1+1) hc ha hs)
end Go.Proofs.YtheaknidbcbneaaGreat
