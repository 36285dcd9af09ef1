/-
  WHAT IS PROVED HERE: a part of the proof (made narrower and merged by program; the parts: Lpf Lpb).
-/
import Derived.Test.YtheaknidbcbneaaGreatM16
import Derived.Test.YtheaknidbcbneaaGreatM31
set_option maxRecDepth 100000
set_option maxHeartbeats 8000000
set_option linter.all false
namespace Go.Proofs.YtheaknidbcbneaaGreat
open Go.RowKit Go.Proofs.Tryz
open Ending renaming returned→Zf
open Lib renaming hid→Zg
open Go.Proofs.Tryz renaming prog→Zr
open Value renaming bool→Zs
open Go.RowKit
theorem JG(n b0 b1:Nat)(x hp hn hc)(la:Addr)(ln lc:Nat)(s0 s1)(w:World)(WM:n≤lc)(hx:ZG w ⟨b0,0,none⟩ [.slice hp hn hc])(hy:ZG w ⟨b1,0,none⟩ [.slice (some la) ln lc])(h0:Kp Zr w 74 #[.int .i64 x,.slice hp hn hc] (.bool s0))(h1:Kp Zr w 29 #[.slice (some la) n lc,.int .i64 x] (.bool s1)) :
  Kp Zr w 98 #[.int .i64 (n:Int),.int .i64 x,.pointer (some ⟨b0,0,none⟩),.pointer (some ⟨b1,0,none⟩)] (.bool (s0&&!s1)):=by
 intro y0;have h0:=h0.up y0;have h1:=h1.up y0;have hx:=hx.plus y0;have hy:=hy.plus y0;have k0:(0:Int)≤(n:Int):=by omega
 have k1:(n:Int)≤(lc:Int):=by omega
 obtain⟨V,hV⟩:=Zv (plus w y0);rw[hV]at h0 h1 hx hy ⊢;clear hV;have d0:V.cell? ⟨b0,0,none⟩=some (.slice hp hn hc):=by have:=hx 0 _ rfl;rw[Addr.add_lit]at this;simpa using this
 have d1:V.cell? ⟨b1,0,none⟩=some (.slice (some la) ln lc):=by have:=hy 0 _ rfl;rw[Addr.add_lit]at this;simpa using this
 have d2:∀y,(Go.Proofs.YtheaknidbcbneaaGreat.plus V y).cell? ⟨b1,0,none⟩=some (.slice (some la) ln lc):=fun y=>ZC (by have:=hy 0 _ rfl;rw[Addr.add_lit]at this;simpa using this) y;clear hx hy;obtain⟨R,hR⟩:=Zv (s0&&!s1);rw[hR];cases s0
 case false =>
  have hF:=Zg (show (false)=R by first|exact hR|(rw[←hR];simp));clear hR;clear h1;have h0:=Zg h0;go_enter func98,ntmps98;go_wp2_with fail;have q0c:=Zg h0.out.pure;refine (YN h0.out).mono ?_;rintro r w' ⟨rfl,x1,rfl⟩;go_wp2_with fail;go_ret;exact⟨congrArg (fun z=>Zf (Zs z)) hF.out,_,rfl⟩
 case true =>
  cases s1
  case false =>
   have hF:=Zg (show (true)=R by first|exact hR|(rw[←hR];simp));clear hR;have h0:=Zg h0;have h1:=Zg h1;go_enter func98,ntmps98;go_wp2_with fail;have q0c:=Zg h0.out.pure;have q1c:=Zg h1.out.pure;refine (YN h0.out).mono ?_;rintro r w' ⟨rfl,x1,rfl⟩;go_wp2_with (first|(go_at_call 29;with_reducible refine (q1c.out _).mono ?_;rintro r w' ⟨rfl,x,rfl⟩));go_ret;exact⟨congrArg (fun z=>Zf (Zs z)) hF.out,_,rfl⟩
  case true =>
   have hF:=Zg (show (false)=R by first|exact hR|(rw[←hR];simp));clear hR;have h0:=Zg h0;have h1:=Zg h1;go_enter func98,ntmps98;go_wp2_with fail;have q0c:=Zg h0.out.pure;have q1c:=Zg h1.out.pure;refine (YN h0.out).mono ?_;rintro r w' ⟨rfl,x1,rfl⟩;go_wp2_with (first|(go_at_call 29;with_reducible refine (q1c.out _).mono ?_;rintro r w' ⟨rfl,x,rfl⟩));go_ret;exact⟨congrArg (fun z=>Zf (Zs z)) hF.out,_,rfl⟩
theorem JF(n b0 b1:Nat)(x hp hn hc)(la:Addr)(ln lc:Nat)(s0 s1)(w:World)(WM:n≤lc)(hx:ZG w ⟨b0,0,none⟩ [.slice hp hn hc])(hy:ZG w ⟨b1,0,none⟩ [.slice (some la) ln lc])(h0:Kp Zr w 30 #[.int .i64 x,.slice hp hn hc] (.bool s0))(h1:Kp Zr w 29 #[.slice (some la) n lc,.int .i64 x] (.bool s1)) :
  Kp Zr w 127 #[.int .i64 (n:Int),.int .i64 x,.pointer (some ⟨b0,0,none⟩),.pointer (some ⟨b1,0,none⟩)] (.bool (s0&&!s1)):=by
 intro y0;have h0:=h0.up y0;have h1:=h1.up y0;have hx:=hx.plus y0;have hy:=hy.plus y0;have k0:(0:Int)≤(n:Int):=by omega
 have k1:(n:Int)≤(lc:Int):=by omega
 obtain⟨V,hV⟩:=Zv (plus w y0);rw[hV]at h0 h1 hx hy ⊢;clear hV;have d0:V.cell? ⟨b0,0,none⟩=some (.slice hp hn hc):=by have:=hx 0 _ rfl;rw[Addr.add_lit]at this;simpa using this
 have d1:V.cell? ⟨b1,0,none⟩=some (.slice (some la) ln lc):=by have:=hy 0 _ rfl;rw[Addr.add_lit]at this;simpa using this
 have d2:∀y,(Go.Proofs.YtheaknidbcbneaaGreat.plus V y).cell? ⟨b1,0,none⟩=some (.slice (some la) ln lc):=fun y=>ZC (by have:=hy 0 _ rfl;rw[Addr.add_lit]at this;simpa using this) y;clear hx hy;obtain⟨R,hR⟩:=Zv (s0&&!s1);rw[hR];cases s0
 case false =>
  have hF:=Zg (show (false)=R by first|exact hR|(rw[←hR];simp));clear hR;clear h1;have h0:=Zg h0;go_enter func127,ntmps127;go_wp2_with fail;have q0c:=Zg h0.out.pure;refine (YN h0.out).mono ?_;rintro r w' ⟨rfl,x1,rfl⟩;go_wp2_with fail;go_ret;exact⟨congrArg (fun z=>Zf (Zs z)) hF.out,_,rfl⟩
 case true =>
  cases s1
  case false =>
   have hF:=Zg (show (true)=R by first|exact hR|(rw[←hR];simp));clear hR;have h0:=Zg h0;have h1:=Zg h1;go_enter func127,ntmps127;go_wp2_with fail;have q0c:=Zg h0.out.pure;have q1c:=Zg h1.out.pure;refine (YN h0.out).mono ?_;rintro r w' ⟨rfl,x1,rfl⟩;go_wp2_with (first|(go_at_call 29;with_reducible refine (q1c.out _).mono ?_;rintro r w' ⟨rfl,x,rfl⟩));go_ret;exact⟨congrArg (fun z=>Zf (Zs z)) hF.out,_,rfl⟩
  case true =>
   have hF:=Zg (show (false)=R by first|exact hR|(rw[←hR];simp));clear hR;have h0:=Zg h0;have h1:=Zg h1;go_enter func127,ntmps127;go_wp2_with fail;have q0c:=Zg h0.out.pure;have q1c:=Zg h1.out.pure;refine (YN h0.out).mono ?_;rintro r w' ⟨rfl,x1,rfl⟩;go_wp2_with (first|(go_at_call 29;with_reducible refine (q1c.out _).mono ?_;rintro r w' ⟨rfl,x,rfl⟩));go_ret;exact⟨congrArg (fun z=>Zf (Zs z)) hF.out,_,rfl⟩
theorem Je(n b:Nat)(kp ap dp)(kn kc gn gc an ac dn dc:Nat)(ga:Addr)(da s0)(w:World)(WM:n≤gc)(hx:ZG w ⟨b,0,none⟩ [.slice kp kn kc,.slice (some ga) gn gc,.slice ap an ac,.int .i64 da,.slice dp dn dc])(h0:Kp Zr w 91 #[.slice (some ga) n gc,.int .u8 2] (.bool s0)) :
  Kp Zr w 90 #[.int .i64 (n:Int),.int .u8 2,.pointer (some ⟨b,0,none⟩)] (.bool (!s0)):=by
 intro y0;have h0:=h0.up y0;have hx:=hx.plus y0;have k0:(0:Int)≤(n:Int):=by omega
 have k1:(n:Int)≤(gc:Int):=by omega
 obtain⟨V,hV⟩:=Zv (plus w y0);rw[hV]at h0 hx ⊢;clear hV;have d1:V.cell? ⟨b,1,none⟩=some (.slice (some ga) gn gc):=by have:=hx 1 _ rfl;rw[Addr.add_lit]at this;simpa using this
 clear hx;obtain⟨R,hR⟩:=Zv (!s0);rw[hR];cases s0
 case false =>
  have hF:=Zg (show (true)=R by first|exact hR|(rw[←hR];simp));clear hR;have h0:=Zg h0;go_enter func90,ntmps90;go_wp2_with fail;have q0c:=Zg h0.out.pure;refine (YN h0.out).mono ?_;rintro r w' ⟨rfl,x1,rfl⟩;go_wp2_with fail;go_ret;exact⟨congrArg (fun z=>Zf (Zs z)) hF.out,_,rfl⟩
 case true =>
  have hF:=Zg (show (false)=R by first|exact hR|(rw[←hR];simp));clear hR;have h0:=Zg h0;go_enter func90,ntmps90;go_wp2_with fail;have q0c:=Zg h0.out.pure;refine (YN h0.out).mono ?_;rintro r w' ⟨rfl,x1,rfl⟩;go_wp2_with fail;go_ret;exact⟨congrArg (fun z=>Zf (Zs z)) hF.out,_,rfl⟩
theorem Jd(n b:Nat)(kd:Int)(w)(h2:¬kd=2) :
  Kp Zr w 90 #[.int .i64 (n:Int),.int .u8 kd,.pointer (some ⟨b,0,none⟩)] (.bool (decide (1≤kd)&&decide (kd≤3))):=by
 intro y0;have m2:decide (kd=2)=false:=decide_eq_false h2;obtain⟨V,hV⟩:=Zv (plus w y0);rw[hV]at ⊢;clear hV;obtain⟨R,hR⟩:=Zv (decide (1≤kd)&&decide (kd≤3));rw[hR];by_cases q1:1≤kd
 case neg =>
  have q1b:decide (1≤kd)=false:=decide_eq_false q1;have hF:=Zg (show (false)=R by first|exact hR|(rw[←hR];simp[q1]));clear hR;go_enter func90,ntmps90;go_wp2_with fail;go_ret;exact⟨congrArg (fun z=>Zf (Zs z)) hF.out,YD _⟩
 case pos =>
  have q1b:decide (1≤kd)=true:=decide_eq_true q1;by_cases q2:kd≤3
  case neg =>
   have q2b:decide (kd≤3)=false:=decide_eq_false q2;have hF:=Zg (show (false)=R by first|exact hR|(rw[←hR];simp[q1,q2]));clear hR;go_enter func90,ntmps90;go_wp2_with fail;go_ret;exact⟨congrArg (fun z=>Zf (Zs z)) hF.out,YD _⟩
  case pos =>
   have q2b:decide (kd≤3)=true:=decide_eq_true q2;have hF:=Zg (show (true)=R by first|exact hR|(rw[←hR];simp[q1,q2]));clear hR;go_enter func90,ntmps90;go_wp2_with fail;go_ret;exact⟨congrArg (fun z=>Zf (Zs z)) hF.out,YD _⟩
theorem JL(vh vl mh ml)(k b:Nat)(ka:Addr)(tp rp)(tn tc kn kc rn rc:Nat)(to_ cp cn cc wd s0)(w:World)(hk:k<kn)(hb:ZG w ⟨b,0,none⟩ [.slice tp tn tc,.slice (some ka) kn kc,.slice rp rn rc,.int .i64 to_])(hd:ZG w (ka.add k) [.slice cp cn cc])(h0:Kp Zr w 68 #[.slice cp cn cc] (.int .i64 wd))(h1:Kp Zr w 85 #[.agg #[.int .u64 vh,.int .u64 vl,.int .u64 mh,.int .u64 ml],.int .i64 wd] (.bool s0)) :
  Kp Zr w 84 #[.int .i64 (k:Int),.agg #[.int .u64 vh,.int .u64 vl,.int .u64 mh,.int .u64 ml],.pointer (some ⟨b,0,none⟩)] (.bool (s0)):=by
 intro y0;have h0:=h0.up y0;have h1:=h1.up y0;have hb:=hb.plus y0;have hd:=hd.plus y0;have k0:¬((k:Int)<0):=by omega
 have k1:(k:Int)<(kn:Int):=by omega
 obtain⟨V,hV⟩:=Zv (plus w y0);rw[hV]at h0 h1 hb hd ⊢;clear hV;have hb1:V.cell? ⟨b,1,none⟩=some (.slice (some ka) kn kc):=by have:=hb 1 _ rfl;rw[Addr.add_lit]at this;simpa using this
 obtain⟨R,hR⟩:=Zv (s0);rw[hR];cases s0
 case false =>
  have hF:=Zg (show (false)=R by first|exact hR|(rw[←hR];simp));clear hR;have h0:=Zg h0;have h1:=Zg h1;go_enter func84,ntmps84;go_wp2;obtain⟨W,yy,hW,⟨z,hz⟩,cb0⟩:=Ya V _ 132;rw[hW];have c0_0:=cb0 0 _ rfl;have c0_1:=cb0 1 _ rfl;have c0_2:=cb0 2 _ rfl;have c0_3:=cb0 3 _ rfl;have u0c:=Zg (Zy hz h0.out);have u1c:=Zg (Zy hz h1.out);have x1:∀y,(Go.Proofs.YtheaknidbcbneaaGreat.plus W y).cell? ⟨b,1,none⟩=some (.slice (some ka) kn kc):=fun y=>by rw[hz];exact ZC (ZC hb1 z) y
  have d0:∀y,(Go.Proofs.YtheaknidbcbneaaGreat.plus W y).cell? (ka.add k)=some (.slice cp cn cc):=fun y=>by rw[hz];exact ((hd.plus z).plus y).c0 _ rfl
  clear hb hd hb1;have Zw:=Zg hz;clear hW hz cb0;refine ZP (by kernel_rfl) (by kernel_rfl) ?_;repeat (go_big_quiet_step (first|(with_reducible exact u0c.out _)|(with_reducible exact u1c.out _)))
  refine wpQuiet_nil ?_;rintro _ ⟨y1,rfl⟩;go_wp2;go_ret;exact⟨congrArg (fun z=>Zf (Zs z)) hF.out,by rw[Zw.out,Zx];exact⟨_,rfl⟩⟩
 case true =>
  have hF:=Zg (show (true)=R by first|exact hR|(rw[←hR];simp));clear hR;have h0:=Zg h0;have h1:=Zg h1;go_enter func84,ntmps84;go_wp2;obtain⟨W,yy,hW,⟨z,hz⟩,cb0⟩:=Ya V _ 132;rw[hW];have c0_0:=cb0 0 _ rfl;have c0_1:=cb0 1 _ rfl;have c0_2:=cb0 2 _ rfl;have c0_3:=cb0 3 _ rfl;have u0c:=Zg (Zy hz h0.out);have u1c:=Zg (Zy hz h1.out);have x1:∀y,(Go.Proofs.YtheaknidbcbneaaGreat.plus W y).cell? ⟨b,1,none⟩=some (.slice (some ka) kn kc):=fun y=>by rw[hz];exact ZC (ZC hb1 z) y
  have d0:∀y,(Go.Proofs.YtheaknidbcbneaaGreat.plus W y).cell? (ka.add k)=some (.slice cp cn cc):=fun y=>by rw[hz];exact ((hd.plus z).plus y).c0 _ rfl
  clear hb hd hb1;have Zw:=Zg hz;clear hW hz cb0;refine ZP (by kernel_rfl) (by kernel_rfl) ?_;repeat (go_big_quiet_step (first|(with_reducible exact u0c.out _)|(with_reducible exact u1c.out _)))
  refine wpQuiet_nil ?_;rintro _ ⟨y1,rfl⟩;go_wp2;go_ret;exact⟨congrArg (fun z=>Zf (Zs z)) hF.out,by rw[Zw.out,Zx];exact⟨_,rfl⟩⟩
theorem KH(q0p q0n q0c q1p q1n q1c q2p q2n q2c q3p q3n q3c q4p q4n q4c q5p q5n q5c q6p q6n q6c q7p q7n q7c q8p q8n q8c q9p q9n q9c q10p q10n q10c q11p q11n q11c)(mr:Nat)(n pp pn pc bt)(b0 b1:Nat)(tp kp rp tn tc kn kc rn rc to_ s0 s1)(w:World)(hc:ZG w ⟨b0,0,none⟩ [.slice q0p q0n q0c,.slice q1p q1n q1c,.slice q2p q2n q2c,.slice q3p q3n q3c,.slice q4p q4n q4c,.slice q5p q5n q5c,.slice q6p q6n q6c,.slice q7p q7n q7c,.slice q8p q8n q8c,.slice q9p q9n q9c,.slice q10p q10n q10c,.slice q11p q11n q11c,.map (some mr)])(hs:ZG w ⟨b1,0,none⟩ [.slice tp tn tc,.slice kp kn kc,.slice rp rn rc,.int .i64 to_])(h0:Kp Zr w 78 #[.agg #[.slice q0p q0n q0c,.slice q1p q1n q1c,.slice q2p q2n q2c,.slice q3p q3n q3c,.slice q4p q4n q4c,.slice q5p q5n q5c,.slice q6p q6n q6c,.slice q7p q7n q7c,.slice q8p q8n q8c,.slice q9p q9n q9c,.slice q10p q10n q10c,.slice q11p q11n q11c,.map (some mr)],.int .i64 bt] (.bool s0))(h1:Kp Zr w 83 #[.slice pp pn pc,.int .i64 (kn:Int),.int .i64 (kn:Int),.func (.func 84) #[] #[.pointer (some ⟨b1,0,none⟩)]] (.bool s1)) :
  Kp Zr w 82 #[.int .i64 n,.agg #[.slice pp pn pc,.int .i64 bt],.pointer (some ⟨b0,0,none⟩),.pointer (some ⟨b1,0,none⟩)] (.bool (s0&&s1)):=by
 intro y0;have h0:=h0.up y0;have h1:=h1.up y0;have hc:=hc.plus y0;have hs:=hs.plus y0;obtain⟨V,hV⟩:=Zv (plus w y0);rw[hV]at h0 h1 hc hs ⊢;clear hV;have dc0h:V.cell? ⟨b0,0,none⟩=some (.slice q0p q0n q0c):=by have:=hc 0 _ rfl;rw[Addr.add_lit]at this;simpa using this
 have dc0:∀o,(V.alloc o).cell? ⟨b0,0,none⟩=some (.slice q0p q0n q0c):=fun o=>ZL dc0h o;have dc1h:V.cell? ⟨b0,1,none⟩=some (.slice q1p q1n q1c):=by have:=hc 1 _ rfl;rw[Addr.add_lit]at this;simpa using this
 have dc1:∀o,(V.alloc o).cell? ⟨b0,1,none⟩=some (.slice q1p q1n q1c):=fun o=>ZL dc1h o;have dc2h:V.cell? ⟨b0,2,none⟩=some (.slice q2p q2n q2c):=by have:=hc 2 _ rfl;rw[Addr.add_lit]at this;simpa using this
 have dc2:∀o,(V.alloc o).cell? ⟨b0,2,none⟩=some (.slice q2p q2n q2c):=fun o=>ZL dc2h o;have dc3h:V.cell? ⟨b0,3,none⟩=some (.slice q3p q3n q3c):=by have:=hc 3 _ rfl;rw[Addr.add_lit]at this;simpa using this
 have dc3:∀o,(V.alloc o).cell? ⟨b0,3,none⟩=some (.slice q3p q3n q3c):=fun o=>ZL dc3h o;have dc4h:V.cell? ⟨b0,4,none⟩=some (.slice q4p q4n q4c):=by have:=hc 4 _ rfl;rw[Addr.add_lit]at this;simpa using this
 have dc4:∀o,(V.alloc o).cell? ⟨b0,4,none⟩=some (.slice q4p q4n q4c):=fun o=>ZL dc4h o;have dc5h:V.cell? ⟨b0,5,none⟩=some (.slice q5p q5n q5c):=by have:=hc 5 _ rfl;rw[Addr.add_lit]at this;simpa using this
 have dc5:∀o,(V.alloc o).cell? ⟨b0,5,none⟩=some (.slice q5p q5n q5c):=fun o=>ZL dc5h o;have dc6h:V.cell? ⟨b0,6,none⟩=some (.slice q6p q6n q6c):=by have:=hc 6 _ rfl;rw[Addr.add_lit]at this;simpa using this
 have dc6:∀o,(V.alloc o).cell? ⟨b0,6,none⟩=some (.slice q6p q6n q6c):=fun o=>ZL dc6h o;have dc7h:V.cell? ⟨b0,7,none⟩=some (.slice q7p q7n q7c):=by have:=hc 7 _ rfl;rw[Addr.add_lit]at this;simpa using this
 have dc7:∀o,(V.alloc o).cell? ⟨b0,7,none⟩=some (.slice q7p q7n q7c):=fun o=>ZL dc7h o;have dc8h:V.cell? ⟨b0,8,none⟩=some (.slice q8p q8n q8c):=by have:=hc 8 _ rfl;rw[Addr.add_lit]at this;simpa using this
 have dc8:∀o,(V.alloc o).cell? ⟨b0,8,none⟩=some (.slice q8p q8n q8c):=fun o=>ZL dc8h o;have dc9h:V.cell? ⟨b0,9,none⟩=some (.slice q9p q9n q9c):=by have:=hc 9 _ rfl;rw[Addr.add_lit]at this;simpa using this
 have dc9:∀o,(V.alloc o).cell? ⟨b0,9,none⟩=some (.slice q9p q9n q9c):=fun o=>ZL dc9h o;have dc10h:V.cell? ⟨b0,10,none⟩=some (.slice q10p q10n q10c):=by have:=hc 10 _ rfl;rw[Addr.add_lit]at this;simpa using this
 have dc10:∀o,(V.alloc o).cell? ⟨b0,10,none⟩=some (.slice q10p q10n q10c):=fun o=>ZL dc10h o;have dc11h:V.cell? ⟨b0,11,none⟩=some (.slice q11p q11n q11c):=by have:=hc 11 _ rfl;rw[Addr.add_lit]at this;simpa using this
 have dc11:∀o,(V.alloc o).cell? ⟨b0,11,none⟩=some (.slice q11p q11n q11c):=fun o=>ZL dc11h o;have dc12h:V.cell? ⟨b0,12,none⟩=some (.map (some mr)):=by have:=hc 12 _ rfl;rw[Addr.add_lit]at this;simpa using this
 have dc12:∀o,(V.alloc o).cell? ⟨b0,12,none⟩=some (.map (some mr)):=fun o=>ZL dc12h o;have ds0h:V.cell? ⟨b1,0,none⟩=some (.slice tp tn tc):=by have:=hs 0 _ rfl;rw[Addr.add_lit]at this;simpa using this
 have ds0:∀o,(V.alloc o).cell? ⟨b1,0,none⟩=some (.slice tp tn tc):=fun o=>ZL ds0h o;have ds1h:V.cell? ⟨b1,1,none⟩=some (.slice kp kn kc):=by have:=hs 1 _ rfl;rw[Addr.add_lit]at this;simpa using this
 have ds1:∀o,(V.alloc o).cell? ⟨b1,1,none⟩=some (.slice kp kn kc):=fun o=>ZL ds1h o;have ds2h:V.cell? ⟨b1,2,none⟩=some (.slice rp rn rc):=by have:=hs 2 _ rfl;rw[Addr.add_lit]at this;simpa using this
 have ds2:∀o,(V.alloc o).cell? ⟨b1,2,none⟩=some (.slice rp rn rc):=fun o=>ZL ds2h o;have ds3h:V.cell? ⟨b1,3,none⟩=some (.int .i64 to_):=by have:=hs 3 _ rfl;rw[Addr.add_lit]at this;simpa using this
 have ds3:∀o,(V.alloc o).cell? ⟨b1,3,none⟩=some (.int .i64 to_):=fun o=>ZL ds3h o;obtain⟨R,hR⟩:=Zv (s0&&s1);rw[hR];cases s0
 case false =>
  have hF:=Zg (show (false)=R by first|exact hR|(rw[←hR];simp));clear hR;clear h1;have h0:=Zg h0;go_enter func82,ntmps82;go_wp2_with fail;obtain⟨W,yy,hW,⟨z,hz⟩,cb0⟩:=Ya V _ 52;rw[hW];have c0_0:=cb0 0 _ rfl;have c0_1:=cb0 1 _ rfl;have u0c:=Zg (Zy hz h0.out);have dc0x:∀y,(Go.Proofs.YtheaknidbcbneaaGreat.plus W y).cell? ⟨b0,0,none⟩=some (.slice q0p q0n q0c):=fun y=>by rw[hz];exact ZC (ZC dc0h z) y
  have dc1x:∀y,(Go.Proofs.YtheaknidbcbneaaGreat.plus W y).cell? ⟨b0,1,none⟩=some (.slice q1p q1n q1c):=fun y=>by rw[hz];exact ZC (ZC dc1h z) y
  have dc2x:∀y,(Go.Proofs.YtheaknidbcbneaaGreat.plus W y).cell? ⟨b0,2,none⟩=some (.slice q2p q2n q2c):=fun y=>by rw[hz];exact ZC (ZC dc2h z) y
  have dc3x:∀y,(Go.Proofs.YtheaknidbcbneaaGreat.plus W y).cell? ⟨b0,3,none⟩=some (.slice q3p q3n q3c):=fun y=>by rw[hz];exact ZC (ZC dc3h z) y
  have dc4x:∀y,(Go.Proofs.YtheaknidbcbneaaGreat.plus W y).cell? ⟨b0,4,none⟩=some (.slice q4p q4n q4c):=fun y=>by rw[hz];exact ZC (ZC dc4h z) y
  have dc5x:∀y,(Go.Proofs.YtheaknidbcbneaaGreat.plus W y).cell? ⟨b0,5,none⟩=some (.slice q5p q5n q5c):=fun y=>by rw[hz];exact ZC (ZC dc5h z) y
  have dc6x:∀y,(Go.Proofs.YtheaknidbcbneaaGreat.plus W y).cell? ⟨b0,6,none⟩=some (.slice q6p q6n q6c):=fun y=>by rw[hz];exact ZC (ZC dc6h z) y
  have dc7x:∀y,(Go.Proofs.YtheaknidbcbneaaGreat.plus W y).cell? ⟨b0,7,none⟩=some (.slice q7p q7n q7c):=fun y=>by rw[hz];exact ZC (ZC dc7h z) y
  have dc8x:∀y,(Go.Proofs.YtheaknidbcbneaaGreat.plus W y).cell? ⟨b0,8,none⟩=some (.slice q8p q8n q8c):=fun y=>by rw[hz];exact ZC (ZC dc8h z) y
  have dc9x:∀y,(Go.Proofs.YtheaknidbcbneaaGreat.plus W y).cell? ⟨b0,9,none⟩=some (.slice q9p q9n q9c):=fun y=>by rw[hz];exact ZC (ZC dc9h z) y
  have dc10x:∀y,(Go.Proofs.YtheaknidbcbneaaGreat.plus W y).cell? ⟨b0,10,none⟩=some (.slice q10p q10n q10c):=fun y=>by rw[hz];exact ZC (ZC dc10h z) y
  have dc11x:∀y,(Go.Proofs.YtheaknidbcbneaaGreat.plus W y).cell? ⟨b0,11,none⟩=some (.slice q11p q11n q11c):=fun y=>by rw[hz];exact ZC (ZC dc11h z) y
  have dc12x:∀y,(Go.Proofs.YtheaknidbcbneaaGreat.plus W y).cell? ⟨b0,12,none⟩=some (.map (some mr)):=fun y=>by rw[hz];exact ZC (ZC dc12h z) y
  have ds0x:∀y,(Go.Proofs.YtheaknidbcbneaaGreat.plus W y).cell? ⟨b1,0,none⟩=some (.slice tp tn tc):=fun y=>by rw[hz];exact ZC (ZC ds0h z) y
  have ds1x:∀y,(Go.Proofs.YtheaknidbcbneaaGreat.plus W y).cell? ⟨b1,1,none⟩=some (.slice kp kn kc):=fun y=>by rw[hz];exact ZC (ZC ds1h z) y
  have ds2x:∀y,(Go.Proofs.YtheaknidbcbneaaGreat.plus W y).cell? ⟨b1,2,none⟩=some (.slice rp rn rc):=fun y=>by rw[hz];exact ZC (ZC ds2h z) y
  have ds3x:∀y,(Go.Proofs.YtheaknidbcbneaaGreat.plus W y).cell? ⟨b1,3,none⟩=some (.int .i64 to_):=fun y=>by rw[hz];exact ZC (ZC ds3h z) y
  clear hc hs;have Zw:=Zg hz;clear hW hz cb0;refine (u0c.out _).mono ?_;rintro r w' ⟨rfl,x1,rfl⟩;go_wp2_with fail;go_ret;exact⟨congrArg (fun z=>Zf (Zs z)) hF.out,by rw[Zw.out,Zx];exact⟨_,rfl⟩⟩
 case true =>
  cases s1
  case false =>
   have hF:=Zg (show (false)=R by first|exact hR|(rw[←hR];simp));clear hR;have h0:=Zg h0;have h1:=Zg h1;go_enter func82,ntmps82;go_wp2_with fail;obtain⟨W,yy,hW,⟨z,hz⟩,cb0⟩:=Ya V _ 52;rw[hW];have c0_0:=cb0 0 _ rfl;have c0_1:=cb0 1 _ rfl;have u0c:=Zg (Zy hz h0.out);have u1c:=Zg (Zy hz h1.out);have dc0x:∀y,(Go.Proofs.YtheaknidbcbneaaGreat.plus W y).cell? ⟨b0,0,none⟩=some (.slice q0p q0n q0c):=fun y=>by rw[hz];exact ZC (ZC dc0h z) y
   have dc1x:∀y,(Go.Proofs.YtheaknidbcbneaaGreat.plus W y).cell? ⟨b0,1,none⟩=some (.slice q1p q1n q1c):=fun y=>by rw[hz];exact ZC (ZC dc1h z) y
   have dc2x:∀y,(Go.Proofs.YtheaknidbcbneaaGreat.plus W y).cell? ⟨b0,2,none⟩=some (.slice q2p q2n q2c):=fun y=>by rw[hz];exact ZC (ZC dc2h z) y
   have dc3x:∀y,(Go.Proofs.YtheaknidbcbneaaGreat.plus W y).cell? ⟨b0,3,none⟩=some (.slice q3p q3n q3c):=fun y=>by rw[hz];exact ZC (ZC dc3h z) y
   have dc4x:∀y,(Go.Proofs.YtheaknidbcbneaaGreat.plus W y).cell? ⟨b0,4,none⟩=some (.slice q4p q4n q4c):=fun y=>by rw[hz];exact ZC (ZC dc4h z) y
   have dc5x:∀y,(Go.Proofs.YtheaknidbcbneaaGreat.plus W y).cell? ⟨b0,5,none⟩=some (.slice q5p q5n q5c):=fun y=>by rw[hz];exact ZC (ZC dc5h z) y
   have dc6x:∀y,(Go.Proofs.YtheaknidbcbneaaGreat.plus W y).cell? ⟨b0,6,none⟩=some (.slice q6p q6n q6c):=fun y=>by rw[hz];exact ZC (ZC dc6h z) y
   have dc7x:∀y,(Go.Proofs.YtheaknidbcbneaaGreat.plus W y).cell? ⟨b0,7,none⟩=some (.slice q7p q7n q7c):=fun y=>by rw[hz];exact ZC (ZC dc7h z) y
   have dc8x:∀y,(Go.Proofs.YtheaknidbcbneaaGreat.plus W y).cell? ⟨b0,8,none⟩=some (.slice q8p q8n q8c):=fun y=>by rw[hz];exact ZC (ZC dc8h z) y
   have dc9x:∀y,(Go.Proofs.YtheaknidbcbneaaGreat.plus W y).cell? ⟨b0,9,none⟩=some (.slice q9p q9n q9c):=fun y=>by rw[hz];exact ZC (ZC dc9h z) y
   have dc10x:∀y,(Go.Proofs.YtheaknidbcbneaaGreat.plus W y).cell? ⟨b0,10,none⟩=some (.slice q10p q10n q10c):=fun y=>by rw[hz];exact ZC (ZC dc10h z) y
   have dc11x:∀y,(Go.Proofs.YtheaknidbcbneaaGreat.plus W y).cell? ⟨b0,11,none⟩=some (.slice q11p q11n q11c):=fun y=>by rw[hz];exact ZC (ZC dc11h z) y
   have dc12x:∀y,(Go.Proofs.YtheaknidbcbneaaGreat.plus W y).cell? ⟨b0,12,none⟩=some (.map (some mr)):=fun y=>by rw[hz];exact ZC (ZC dc12h z) y
   have ds0x:∀y,(Go.Proofs.YtheaknidbcbneaaGreat.plus W y).cell? ⟨b1,0,none⟩=some (.slice tp tn tc):=fun y=>by rw[hz];exact ZC (ZC ds0h z) y
   have ds1x:∀y,(Go.Proofs.YtheaknidbcbneaaGreat.plus W y).cell? ⟨b1,1,none⟩=some (.slice kp kn kc):=fun y=>by rw[hz];exact ZC (ZC ds1h z) y
   have ds2x:∀y,(Go.Proofs.YtheaknidbcbneaaGreat.plus W y).cell? ⟨b1,2,none⟩=some (.slice rp rn rc):=fun y=>by rw[hz];exact ZC (ZC ds2h z) y
   have ds3x:∀y,(Go.Proofs.YtheaknidbcbneaaGreat.plus W y).cell? ⟨b1,3,none⟩=some (.int .i64 to_):=fun y=>by rw[hz];exact ZC (ZC ds3h z) y
   clear hc hs;have Zw:=Zg hz;clear hW hz cb0;refine (u0c.out _).mono ?_;rintro r w' ⟨rfl,x1,rfl⟩;go_wp2_with (first|(go_at_call 83;with_reducible refine (u1c.out _).mono ?_;rintro r w' ⟨rfl,x,rfl⟩));go_ret;exact⟨congrArg (fun z=>Zf (Zs z)) hF.out,by rw[Zw.out,Zx];exact⟨_,rfl⟩⟩
  case true =>
   have hF:=Zg (show (true)=R by first|exact hR|(rw[←hR];simp));clear hR;have h0:=Zg h0;have h1:=Zg h1;go_enter func82,ntmps82;go_wp2_with fail;obtain⟨W,yy,hW,⟨z,hz⟩,cb0⟩:=Ya V _ 52;rw[hW];have c0_0:=cb0 0 _ rfl;have c0_1:=cb0 1 _ rfl;have u0c:=Zg (Zy hz h0.out);have u1c:=Zg (Zy hz h1.out);have dc0x:∀y,(Go.Proofs.YtheaknidbcbneaaGreat.plus W y).cell? ⟨b0,0,none⟩=some (.slice q0p q0n q0c):=fun y=>by rw[hz];exact ZC (ZC dc0h z) y
   have dc1x:∀y,(Go.Proofs.YtheaknidbcbneaaGreat.plus W y).cell? ⟨b0,1,none⟩=some (.slice q1p q1n q1c):=fun y=>by rw[hz];exact ZC (ZC dc1h z) y
   have dc2x:∀y,(Go.Proofs.YtheaknidbcbneaaGreat.plus W y).cell? ⟨b0,2,none⟩=some (.slice q2p q2n q2c):=fun y=>by rw[hz];exact ZC (ZC dc2h z) y
   have dc3x:∀y,(Go.Proofs.YtheaknidbcbneaaGreat.plus W y).cell? ⟨b0,3,none⟩=some (.slice q3p q3n q3c):=fun y=>by rw[hz];exact ZC (ZC dc3h z) y
   have dc4x:∀y,(Go.Proofs.YtheaknidbcbneaaGreat.plus W y).cell? ⟨b0,4,none⟩=some (.slice q4p q4n q4c):=fun y=>by rw[hz];exact ZC (ZC dc4h z) y
   have dc5x:∀y,(Go.Proofs.YtheaknidbcbneaaGreat.plus W y).cell? ⟨b0,5,none⟩=some (.slice q5p q5n q5c):=fun y=>by rw[hz];exact ZC (ZC dc5h z) y
   have dc6x:∀y,(Go.Proofs.YtheaknidbcbneaaGreat.plus W y).cell? ⟨b0,6,none⟩=some (.slice q6p q6n q6c):=fun y=>by rw[hz];exact ZC (ZC dc6h z) y
   have dc7x:∀y,(Go.Proofs.YtheaknidbcbneaaGreat.plus W y).cell? ⟨b0,7,none⟩=some (.slice q7p q7n q7c):=fun y=>by rw[hz];exact ZC (ZC dc7h z) y
   have dc8x:∀y,(Go.Proofs.YtheaknidbcbneaaGreat.plus W y).cell? ⟨b0,8,none⟩=some (.slice q8p q8n q8c):=fun y=>by rw[hz];exact ZC (ZC dc8h z) y
   have dc9x:∀y,(Go.Proofs.YtheaknidbcbneaaGreat.plus W y).cell? ⟨b0,9,none⟩=some (.slice q9p q9n q9c):=fun y=>by rw[hz];exact ZC (ZC dc9h z) y
   have dc10x:∀y,(Go.Proofs.YtheaknidbcbneaaGreat.plus W y).cell? ⟨b0,10,none⟩=some (.slice q10p q10n q10c):=fun y=>by rw[hz];exact ZC (ZC dc10h z) y
   have dc11x:∀y,(Go.Proofs.YtheaknidbcbneaaGreat.plus W y).cell? ⟨b0,11,none⟩=some (.slice q11p q11n q11c):=fun y=>by rw[hz];exact ZC (ZC dc11h z) y
   have dc12x:∀y,(Go.Proofs.YtheaknidbcbneaaGreat.plus W y).cell? ⟨b0,12,none⟩=some (.map (some mr)):=fun y=>by rw[hz];exact ZC (ZC dc12h z) y
   have ds0x:∀y,(Go.Proofs.YtheaknidbcbneaaGreat.plus W y).cell? ⟨b1,0,none⟩=some (.slice tp tn tc):=fun y=>by rw[hz];exact ZC (ZC ds0h z) y
   have ds1x:∀y,(Go.Proofs.YtheaknidbcbneaaGreat.plus W y).cell? ⟨b1,1,none⟩=some (.slice kp kn kc):=fun y=>by rw[hz];exact ZC (ZC ds1h z) y
   have ds2x:∀y,(Go.Proofs.YtheaknidbcbneaaGreat.plus W y).cell? ⟨b1,2,none⟩=some (.slice rp rn rc):=fun y=>by rw[hz];exact ZC (ZC ds2h z) y
   have ds3x:∀y,(Go.Proofs.YtheaknidbcbneaaGreat.plus W y).cell? ⟨b1,3,none⟩=some (.int .i64 to_):=fun y=>by rw[hz];exact ZC (ZC ds3h z) y
   clear hc hs;have Zw:=Zg hz;clear hW hz cb0;refine (u0c.out _).mono ?_;rintro r w' ⟨rfl,x1,rfl⟩;go_wp2_with (first|(go_at_call 83;with_reducible refine (u1c.out _).mono ?_;rintro r w' ⟨rfl,x,rfl⟩));go_ret;exact⟨congrArg (fun z=>Zf (Zs z)) hF.out,by rw[Zw.out,Zx];exact⟨_,rfl⟩⟩
end Go.Proofs.YtheaknidbcbneaaGreat
