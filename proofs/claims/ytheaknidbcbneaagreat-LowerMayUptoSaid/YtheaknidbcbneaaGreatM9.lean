/-
  WHAT IS PROVED HERE: a part of the proof (made narrower and merged by program; the parts: Lok Lom Lon Low Los).
-/
import Derived.Laws.AppendOwn
import Derived.OwnWalk
import Derived.Deep.AppendLies
import Derived.ProofKit
import Derived.Deep.RegionLaw
import Derived.BigRegion
import Derived.Test.YtheaknidbcbneaaGreatM7
import Derived.Test.YtheaknidbcbneaaGreatM4
import Derived.Test.YtheaknidbcbneaaGreatM8
set_option maxRecDepth 100000
set_option maxHeartbeats 8000000
set_option linter.all false
namespace Go.Proofs.YtheaknidbcbneaaGreat
open Go.RowKit Go.Proofs.Tryz
open Ending renaming returned→Zf
open Lib renaming hid→Zg
open List renaming drop_of_length_le→Zh,getElem?_eq_getElem→Zi,getElem?_eq_some_iff→Zj,mem_of_getElem?→Zl
open Nat renaming le_refl→Zp,zero_le→Zq
open Go.Proofs.Tryz renaming prog→Zr
open Value renaming bool→Zs,int→Zt
open Go.RowKit
def Vf(f:Int→Bool):Nat→List Int→Int
 | _,[]=>-1
 | k,x :: l=>if f x then (k:Int) else Vf f (k+1) l
theorem Lr(f:Int→Bool)(l:List Int)(k:Nat)(x:Int)(hx:l[k]?=some x):Vf f k (l.drop k)=if f x then (k:Int) else Vf f (k+1) (l.drop (k+1)):=by
 obtain⟨h1,rfl⟩:=Zj.1 hx;rw[List.drop_eq_getElem_cons h1,Vf]
theorem Pz(f:Int→Bool):∀(l:List Int) (k:Nat),decide (0≤Vf f k l)=l.any f
 | [],k=>by simp[Vf]
 | x :: l,k=>by
  rw[Vf,List.any_cons];cases f x with
  | true=>simp
  | false=>simpa using Pz f l (k+1)
theorem K0(f:Int→Bool)(g:FuncId)(first caps:Array Value)(K:Int→Prop)(w:World)(A:Sl Int)(hA:A.In w 1 (Z8 .i64) K)(hl:A.l.length≤1048576)(Wb:∀args w,(callFunc g args).run Zr w=.ok (.enter g args) w)(hf:∀x∈A.l,Kp Zr w g (first.push (.int .i64 x)++caps) (.bool (f x))) :
  Kp Zr w 121 #[A.v,.func (.func g) first caps] (.int .i64 (Vf f 0 A.l)):=by
 intro y0;obtain⟨p,cap,l⟩:=A;simp only[Sl.v]at hl hf ⊢;obtain⟨n,hn⟩:=Zv l.length;have hA:=hA.row.plus y0;have hf:=fun x hx=>((hf x hx).up y0).pure;obtain⟨W,hW⟩:=Zv (plus w y0);rw[hW]at hA ⊢;simp only[hW]at hf;rw[hn]at hl;clear hW;obtain⟨R,hR⟩:=Zv (Vf f 0 l);have h0:Vf f 0 (l.drop 0)=R:=hR;rw[hn,hR];have ZR:=Zg hA;have ZJ:=Zg hn;have ZX:=Zg hl;have Yd:=Zg h0;have Yu:=Zg hf;clear hA hl hn hR h0 hf;go_enter func121,ntmps121;go_wp2;go_loopw [5,8] (fun _ iv wr=>∃k:Nat,k≤n∧iv=.int .i64 (k:Int)∧Hid (Vf f k (l.drop k)=R)∧∃y,wr=plus W y) (fun _ iv _=>n-(intOf iv).toNat)
 case atStart=>exact⟨0,Zq _,rfl,Yd,⟨#[],W.drawn⟩,(ZK W).symm⟩
 case round =>
  obtain⟨k,hk,rfl,hs,y,rfl⟩:=hrel;by_cases Zz:k<n
  ·obtain⟨a,ha⟩:=Z6 l k (by rw[ZJ.out];exact Zz)
   obtain⟨pa,rfl,hc⟩:=ZR.out k a ha;have q1:=Yu.out a (Zl ha);have ZB:(if f a then (k:Int) else Vf f (k+1) (l.drop (k+1)))=R:=by rw[←Lr f l k a ha];exact hs.out
   obtain⟨Z,hZ⟩:=Zv (f a);rw[hZ]at q1 ZB;have d0:=fun y=>(hc.plus y).c0 _ rfl;simp only[Nat.mul_one]at d0;have q1':=Zg q1;have a6:=Zg (Yo k n Zz ZX.out);clear q1 hZ hc ha hs;cases Z with
   | true =>
    have ZD:=Zg (show (k:Int)=R by simpa using ZB);clear ZB;go_wp2_with (refine (q1'.out _).mono ?_;rintro e w' ⟨rfl,x,rfl⟩);go_ret;exact⟨congrArg (fun z=>Zf (Zt .i64 z)) ZD.out,x,rfl⟩
   | false =>
    have ZD:=Zg (show Vf f (k+1) (l.drop (k+1))=R by simpa using ZB);clear ZB;go_wp2_with (refine (q1'.out _).mono ?_;rintro e w' ⟨rfl,x,rfl⟩);go_roundw
    case rel=>exact⟨k+1,Zz,congrArg (Zt .i64) a6.out,ZD,x,rfl⟩
    case measure=>exact YF k n Zz a6.out
  ·obtain rfl:k=n:=by omega
   have ZD:=Zg (show (-1:Int)=R by
    rw[←hs.out,Zh (by rw[ZJ.out];exact Zp _)];rfl)
   clear hs Zz hk;go_wp2;go_ret;exact⟨congrArg (fun z=>Zf (Zt .i64 z)) ZD.out,y,rfl⟩
theorem UO(f:Int→Bool)(g:FuncId)(first caps:Array Value)(K:Int→Prop)(w:World)(A:Sl Int)(hA:A.In w 1 (Z8 .i64) K)(hl:A.l.length≤1048576)(Wb:∀args w,(callFunc g args).run Zr w=.ok (.enter g args) w)(hf:∀x∈A.l,Kp Zr w g (first.push (.int .i64 x)++caps) (.bool (f x))) :
  Kp Zr w 75 #[A.v,.func (.func g) first caps] (.bool (A.l.any f)):=by
 have h:=K0 f g first caps K w A hA hl Wb hf;rw[←Pz f A.l 0];generalize Vf f 0 A.l=I at h ⊢;obtain⟨p,cap,l⟩:=A;simp only[Sl.v]at h ⊢;clear hA hl hf Wb;intro y0;have h:=h.up y0;obtain⟨V,hV⟩:=Zv (plus w y0);rw[hV]at h ⊢;obtain⟨R,hR⟩:=Zv (decide (0≤I));rw[hR];have h':=Zg h;clear h hV;by_cases q:0≤I
 case pos =>
  have hF:=Zg (show true=R by rw[←hR,decide_eq_true q]);clear hR;go_enter func75,ntmps75;go_wp2_with fail;refine (YN h'.out).mono ?_;rintro r w' ⟨rfl,x1,rfl⟩;go_wp2_with fail;go_ret;exact⟨congrArg (fun z=>Zf (Zs z)) hF.out,_,rfl⟩
 case neg =>
  have hF:=Zg (show false=R by rw[←hR,decide_eq_false q]);clear hR;go_enter func75,ntmps75;go_wp2_with fail;refine (YN h'.out).mono ?_;rintro r w' ⟨rfl,x1,rfl⟩;go_wp2_with fail;go_ret;exact⟨congrArg (fun z=>Zf (Zs z)) ((decide_eq_false (Int.not_le.mpr q)).trans hF.out),_,rfl⟩
theorem Tp(W:World)(b:Nat)(nw x)(h:∀y,(plus W y).cell? ⟨b,1,none⟩=some (.int .i64 nw)):Kp Zr W 76 #[.int .i64 x,.pointer (some ⟨b,0,none⟩)] (.bool (x !=nw)):=by
 intro y0;have h1:=h y0;clear h;go_enter func76,ntmps76;go_wp2_with fail;go_ret;exact⟨rfl,⟨#[],(plus W y0).drawn⟩,(ZK _).symm⟩
theorem Kw(q0p q0n q0c q1p q1n q1c q2p q2n q2c q3p q3n q3c q4p q4n q4c q5p q5n q5c q6p q6n q6c q7p q7n q7c q8p q8n q8c q9p q9n q9c q10p q10n q10c q11p q11n q11c)(mr:Nat)(nw na nb vh vl act)(w:World)(A:Sl Int)(K:Int→Prop)(hA:A.In w 1 (Z8 .i64) K)(hl:A.l.length≤1048576) :
  Kp Zr w 40 #[.agg #[.slice q0p q0n q0c,.slice q1p q1n q1c,.slice q2p q2n q2c,.slice q3p q3n q3c,.slice q4p q4n q4c,.slice q5p q5n q5c,.slice q6p q6n q6c,.slice q7p q7n q7c,.slice q8p q8n q8c,.slice q9p q9n q9c,.slice q10p q10n q10c,.slice q11p q11n q11c,.map (some mr)],.int .i64 act,.agg #[.int .u8 7,.int .i64 nw,.int .i64 na,.int .i64 nb,.int .u64 vh,.int .u64 vl],A.v] (.bool (!(A.l.any fun x=>x !=nw))):=by
 intro y0;have hA:=hA.plus (fun _ a=>a) y0;obtain⟨V,hV⟩:=Zv (plus w y0);rw[hV]at hA ⊢;clear hV;have ZR:=Zg hA;have ZX:=Zg hl;obtain⟨R,hR⟩:=Zv (A.l.any fun x=>x !=nw);have Yi:=Zg hR;rw[hR];clear hA hl hR;have hv:A.v=.slice A.p A.l.length A.cap:=rfl;rw[hv];go_enter func40,ntmps40;go_wp2_with fail;obtain⟨W,yy,hW,⟨z,hz⟩,cb0,cb1⟩:=ZF V _ _ 82 79;rw[hW];have c1_0:=cb1 0 _ rfl;have c1_1:=cb1 1 _ rfl;have q0:=UO (fun x=>x !=nw) 76 #[] #[.pointer (some ⟨V.heap.size+1,0,none⟩)] K W A (hz▸ZR.out.plus (fun _ a=>a) z) ZX.out (enters_of func76 (by kernel_rfl) rfl) (fun x _=>Tp W (V.heap.size+1) nw x c1_1);rw[Yi.out,hv]at q0;have q0c:=Zg q0.pure;have Zw:=Zg hz;clear hW hz cb0 cb1 q0 ZR Yi;go_wp2_with fail;refine (q0c.out _).mono ?_;rintro r w' ⟨rfl,x1,rfl⟩;go_wp2_with fail;go_ret;exact⟨rfl,by rw[Zw.out,Zx];exact⟨_,rfl⟩⟩
theorem Kx(q0p q0n q0c q1p q1n q1c q2p q2n q2c q3p q3n q3c q4p q4n q4c q5p q5n q5c q6p q6n q6c q7p q7n q7c q8p q8n q8c q9p q9n q9c q10p q10n q10c q11p q11n q11c)(mr:Nat)(nw na nb vh vl act)(w:World)(A:Sl Int)(K:Int→Prop)(hA:A.In w 1 (Z8 .i64) K)(hl:A.l.length≤1048576) :
  Kp Zr w 40 #[.agg #[.slice q0p q0n q0c,.slice q1p q1n q1c,.slice q2p q2n q2c,.slice q3p q3n q3c,.slice q4p q4n q4c,.slice q5p q5n q5c,.slice q6p q6n q6c,.slice q7p q7n q7c,.slice q8p q8n q8c,.slice q9p q9n q9c,.slice q10p q10n q10c,.slice q11p q11n q11c,.map (some mr)],.int .i64 act,.agg #[.int .u8 8,.int .i64 nw,.int .i64 na,.int .i64 nb,.int .u64 vh,.int .u64 vl],A.v] (.bool (!(A.l.any fun x=>x !=nw))):=by
 intro y0;have hA:=hA.plus (fun _ a=>a) y0;obtain⟨V,hV⟩:=Zv (plus w y0);rw[hV]at hA ⊢;clear hV;have ZR:=Zg hA;have ZX:=Zg hl;obtain⟨R,hR⟩:=Zv (A.l.any fun x=>x !=nw);have Yi:=Zg hR;rw[hR];clear hA hl hR;have hv:A.v=.slice A.p A.l.length A.cap:=rfl;rw[hv];go_enter func40,ntmps40;go_wp2_with fail;obtain⟨W,yy,hW,⟨z,hz⟩,cb0,cb1⟩:=ZF V _ _ 82 79;rw[hW];have c1_0:=cb1 0 _ rfl;have c1_1:=cb1 1 _ rfl;have q0:=UO (fun x=>x !=nw) 76 #[] #[.pointer (some ⟨V.heap.size+1,0,none⟩)] K W A (hz▸ZR.out.plus (fun _ a=>a) z) ZX.out (enters_of func76 (by kernel_rfl) rfl) (fun x _=>Tp W (V.heap.size+1) nw x c1_1);rw[Yi.out,hv]at q0;have q0c:=Zg q0.pure;have Zw:=Zg hz;clear hW hz cb0 cb1 q0 ZR Yi;go_wp2_with fail;refine (q0c.out _).mono ?_;rintro r w' ⟨rfl,x1,rfl⟩;go_wp2_with fail;go_ret;exact⟨rfl,by rw[Zw.out,Zx];exact⟨_,rfl⟩⟩
theorem Kg(q0p q0n q0c q1p q1n q1c q2p q2n q2c q3p q3n q3c q4p q4n q4c q5p q5n q5c q6p q6n q6c q7p q7n q7c q8p q8n q8c q9p q9n q9c q10p q10n q10c q11p q11n q11c)(mr:Nat)(nw na nb vh vl act)(w:World)(A:Sl Int)(K:Int→Prop)(hA:A.In w 1 (Z8 .i64) K)(hl:A.l.length≤1048576) :
  Kp Zr w 40 #[.agg #[.slice q0p q0n q0c,.slice q1p q1n q1c,.slice q2p q2n q2c,.slice q3p q3n q3c,.slice q4p q4n q4c,.slice q5p q5n q5c,.slice q6p q6n q6c,.slice q7p q7n q7c,.slice q8p q8n q8c,.slice q9p q9n q9c,.slice q10p q10n q10c,.slice q11p q11n q11c,.map (some mr)],.int .i64 act,.agg #[.int .u8 11,.int .i64 nw,.int .i64 na,.int .i64 nb,.int .u64 vh,.int .u64 vl],A.v] (.bool (!(A.l.any fun x=>x !=nw))):=by
 intro y0;have hA:=hA.plus (fun _ a=>a) y0;obtain⟨V,hV⟩:=Zv (plus w y0);rw[hV]at hA ⊢;clear hV;have ZR:=Zg hA;have ZX:=Zg hl;obtain⟨R,hR⟩:=Zv (A.l.any fun x=>x !=nw);have Yi:=Zg hR;rw[hR];clear hA hl hR;have hv:A.v=.slice A.p A.l.length A.cap:=rfl;rw[hv];go_enter func40,ntmps40;go_wp2_with fail;obtain⟨W,yy,hW,⟨z,hz⟩,cb0,cb1⟩:=ZF V _ _ 82 79;rw[hW];have c1_0:=cb1 0 _ rfl;have c1_1:=cb1 1 _ rfl;have q0:=UO (fun x=>x !=nw) 76 #[] #[.pointer (some ⟨V.heap.size+1,0,none⟩)] K W A (hz▸ZR.out.plus (fun _ a=>a) z) ZX.out (enters_of func76 (by kernel_rfl) rfl) (fun x _=>Tp W (V.heap.size+1) nw x c1_1);rw[Yi.out,hv]at q0;have q0c:=Zg q0.pure;have Zw:=Zg hz;clear hW hz cb0 cb1 q0 ZR Yi;go_wp2_with fail;refine (q0c.out _).mono ?_;rintro r w' ⟨rfl,x1,rfl⟩;go_wp2_with fail;go_ret;exact⟨rfl,by rw[Zw.out,Zx];exact⟨_,rfl⟩⟩
theorem Kh(q0p q0n q0c q1p q1n q1c q2p q2n q2c q3p q3n q3c q4p q4n q4c q5p q5n q5c q6p q6n q6c q7p q7n q7c q8p q8n q8c q9p q9n q9c q10p q10n q10c q11p q11n q11c)(mr:Nat)(nw na nb vh vl act)(w:World)(A:Sl Int)(K:Int→Prop)(hA:A.In w 1 (Z8 .i64) K)(hl:A.l.length≤1048576) :
  Kp Zr w 40 #[.agg #[.slice q0p q0n q0c,.slice q1p q1n q1c,.slice q2p q2n q2c,.slice q3p q3n q3c,.slice q4p q4n q4c,.slice q5p q5n q5c,.slice q6p q6n q6c,.slice q7p q7n q7c,.slice q8p q8n q8c,.slice q9p q9n q9c,.slice q10p q10n q10c,.slice q11p q11n q11c,.map (some mr)],.int .i64 act,.agg #[.int .u8 12,.int .i64 nw,.int .i64 na,.int .i64 nb,.int .u64 vh,.int .u64 vl],A.v] (.bool (!(A.l.any fun x=>x !=nw))):=by
 intro y0;have hA:=hA.plus (fun _ a=>a) y0;obtain⟨V,hV⟩:=Zv (plus w y0);rw[hV]at hA ⊢;clear hV;have ZR:=Zg hA;have ZX:=Zg hl;obtain⟨R,hR⟩:=Zv (A.l.any fun x=>x !=nw);have Yi:=Zg hR;rw[hR];clear hA hl hR;have hv:A.v=.slice A.p A.l.length A.cap:=rfl;rw[hv];go_enter func40,ntmps40;go_wp2_with fail;obtain⟨W,yy,hW,⟨z,hz⟩,cb0,cb1⟩:=ZF V _ _ 82 79;rw[hW];have c1_0:=cb1 0 _ rfl;have c1_1:=cb1 1 _ rfl;have q0:=UO (fun x=>x !=nw) 76 #[] #[.pointer (some ⟨V.heap.size+1,0,none⟩)] K W A (hz▸ZR.out.plus (fun _ a=>a) z) ZX.out (enters_of func76 (by kernel_rfl) rfl) (fun x _=>Tp W (V.heap.size+1) nw x c1_1);rw[Yi.out,hv]at q0;have q0c:=Zg q0.pure;have Zw:=Zg hz;clear hW hz cb0 cb1 q0 ZR Yi;go_wp2_with fail;refine (q0c.out _).mono ?_;rintro r w' ⟨rfl,x1,rfl⟩;go_wp2_with fail;go_ret;exact⟨rfl,by rw[Zw.out,Zx];exact⟨_,rfl⟩⟩
theorem Kk(q0p q0n q0c q1p q1n q1c q2p q2n q2c q3p q3n q3c q4p q4n q4c q5p q5n q5c q6p q6n q6c q7p q7n q7c q8p q8n q8c q9p q9n q9c q10p q10n q10c q11p q11n q11c)(mr:Nat)(nw na nb vh vl act)(w:World)(A:Sl Int)(K:Int→Prop)(hA:A.In w 1 (Z8 .i64) K)(hl:A.l.length≤1048576) :
  Kp Zr w 40 #[.agg #[.slice q0p q0n q0c,.slice q1p q1n q1c,.slice q2p q2n q2c,.slice q3p q3n q3c,.slice q4p q4n q4c,.slice q5p q5n q5c,.slice q6p q6n q6c,.slice q7p q7n q7c,.slice q8p q8n q8c,.slice q9p q9n q9c,.slice q10p q10n q10c,.slice q11p q11n q11c,.map (some mr)],.int .i64 act,.agg #[.int .u8 15,.int .i64 nw,.int .i64 na,.int .i64 nb,.int .u64 vh,.int .u64 vl],A.v] (.bool (!(A.l.any fun x=>x !=nw))):=by
 intro y0;have hA:=hA.plus (fun _ a=>a) y0;obtain⟨V,hV⟩:=Zv (plus w y0);rw[hV]at hA ⊢;clear hV;have ZR:=Zg hA;have ZX:=Zg hl;obtain⟨R,hR⟩:=Zv (A.l.any fun x=>x !=nw);have Yi:=Zg hR;rw[hR];clear hA hl hR;have hv:A.v=.slice A.p A.l.length A.cap:=rfl;rw[hv];go_enter func40,ntmps40;go_wp2_with fail;obtain⟨W,yy,hW,⟨z,hz⟩,cb0,cb1⟩:=ZF V _ _ 82 79;rw[hW];have c1_0:=cb1 0 _ rfl;have c1_1:=cb1 1 _ rfl;have q0:=UO (fun x=>x !=nw) 76 #[] #[.pointer (some ⟨V.heap.size+1,0,none⟩)] K W A (hz▸ZR.out.plus (fun _ a=>a) z) ZX.out (enters_of func76 (by kernel_rfl) rfl) (fun x _=>Tp W (V.heap.size+1) nw x c1_1);rw[Yi.out,hv]at q0;have q0c:=Zg q0.pure;have Zw:=Zg hz;clear hW hz cb0 cb1 q0 ZR Yi;go_wp2_with fail;refine (q0c.out _).mono ?_;rintro r w' ⟨rfl,x1,rfl⟩;go_wp2_with fail;go_ret;exact⟨rfl,by rw[Zw.out,Zx];exact⟨_,rfl⟩⟩
theorem Kl(q0p q0n q0c q1p q1n q1c q2p q2n q2c q3p q3n q3c q4p q4n q4c q5p q5n q5c q6p q6n q6c q7p q7n q7c q8p q8n q8c q9p q9n q9c q10p q10n q10c q11p q11n q11c)(mr:Nat)(nw na nb vh vl act)(w:World)(A:Sl Int)(K:Int→Prop)(hA:A.In w 1 (Z8 .i64) K)(hl:A.l.length≤1048576) :
  Kp Zr w 40 #[.agg #[.slice q0p q0n q0c,.slice q1p q1n q1c,.slice q2p q2n q2c,.slice q3p q3n q3c,.slice q4p q4n q4c,.slice q5p q5n q5c,.slice q6p q6n q6c,.slice q7p q7n q7c,.slice q8p q8n q8c,.slice q9p q9n q9c,.slice q10p q10n q10c,.slice q11p q11n q11c,.map (some mr)],.int .i64 act,.agg #[.int .u8 16,.int .i64 nw,.int .i64 na,.int .i64 nb,.int .u64 vh,.int .u64 vl],A.v] (.bool (!(A.l.any fun x=>x !=nw))):=by
 intro y0;have hA:=hA.plus (fun _ a=>a) y0;obtain⟨V,hV⟩:=Zv (plus w y0);rw[hV]at hA ⊢;clear hV;have ZR:=Zg hA;have ZX:=Zg hl;obtain⟨R,hR⟩:=Zv (A.l.any fun x=>x !=nw);have Yi:=Zg hR;rw[hR];clear hA hl hR;have hv:A.v=.slice A.p A.l.length A.cap:=rfl;rw[hv];go_enter func40,ntmps40;go_wp2_with fail;obtain⟨W,yy,hW,⟨z,hz⟩,cb0,cb1⟩:=ZF V _ _ 82 79;rw[hW];have c1_0:=cb1 0 _ rfl;have c1_1:=cb1 1 _ rfl;have q0:=UO (fun x=>x !=nw) 76 #[] #[.pointer (some ⟨V.heap.size+1,0,none⟩)] K W A (hz▸ZR.out.plus (fun _ a=>a) z) ZX.out (enters_of func76 (by kernel_rfl) rfl) (fun x _=>Tp W (V.heap.size+1) nw x c1_1);rw[Yi.out,hv]at q0;have q0c:=Zg q0.pure;have Zw:=Zg hz;clear hW hz cb0 cb1 q0 ZR Yi;go_wp2_with fail;refine (q0c.out _).mono ?_;rintro r w' ⟨rfl,x1,rfl⟩;go_wp2_with fail;go_ret;exact⟨rfl,by rw[Zw.out,Zx];exact⟨_,rfl⟩⟩
theorem Km(q0p q0n q0c q1p q1n q1c q2p q2n q2c q3p q3n q3c q4p q4n q4c q5p q5n q5c q6p q6n q6c q7p q7n q7c q8p q8n q8c q9p q9n q9c q10p q10n q10c q11p q11n q11c)(mr:Nat)(nw na nb vh vl act)(w:World)(A:Sl Int)(K:Int→Prop)(hA:A.In w 1 (Z8 .i64) K)(hl:A.l.length≤1048576) :
  Kp Zr w 40 #[.agg #[.slice q0p q0n q0c,.slice q1p q1n q1c,.slice q2p q2n q2c,.slice q3p q3n q3c,.slice q4p q4n q4c,.slice q5p q5n q5c,.slice q6p q6n q6c,.slice q7p q7n q7c,.slice q8p q8n q8c,.slice q9p q9n q9c,.slice q10p q10n q10c,.slice q11p q11n q11c,.map (some mr)],.int .i64 act,.agg #[.int .u8 17,.int .i64 nw,.int .i64 na,.int .i64 nb,.int .u64 vh,.int .u64 vl],A.v] (.bool (!(A.l.any fun x=>x !=nw))):=by
 intro y0;have hA:=hA.plus (fun _ a=>a) y0;obtain⟨V,hV⟩:=Zv (plus w y0);rw[hV]at hA ⊢;clear hV;have ZR:=Zg hA;have ZX:=Zg hl;obtain⟨R,hR⟩:=Zv (A.l.any fun x=>x !=nw);have Yi:=Zg hR;rw[hR];clear hA hl hR;have hv:A.v=.slice A.p A.l.length A.cap:=rfl;rw[hv];go_enter func40,ntmps40;go_wp2_with fail;obtain⟨W,yy,hW,⟨z,hz⟩,cb0,cb1⟩:=ZF V _ _ 82 79;rw[hW];have c1_0:=cb1 0 _ rfl;have c1_1:=cb1 1 _ rfl;have q0:=UO (fun x=>x !=nw) 76 #[] #[.pointer (some ⟨V.heap.size+1,0,none⟩)] K W A (hz▸ZR.out.plus (fun _ a=>a) z) ZX.out (enters_of func76 (by kernel_rfl) rfl) (fun x _=>Tp W (V.heap.size+1) nw x c1_1);rw[Yi.out,hv]at q0;have q0c:=Zg q0.pure;have Zw:=Zg hz;clear hW hz cb0 cb1 q0 ZR Yi;go_wp2_with fail;refine (q0c.out _).mono ?_;rintro r w' ⟨rfl,x1,rfl⟩;go_wp2_with fail;go_ret;exact⟨rfl,by rw[Zw.out,Zx];exact⟨_,rfl⟩⟩
def Nu.n(t:Nu):Nat:=t.h.toNat*18446744073709551616+t.l.toNat
theorem Sb{h:Int}(k:(Lit.int .u64 h).wf=true):0≤h∧h<18446744073709551616:=by
 simp[Lit.wf,IntKind.min,IntKind.max,IntKind.signed,IntKind.bits]at k;omega
theorem Nu.nv_eq{t:Nu}(h:t.In):Value.agg #[.int .u64 t.h,.int .u64 t.l]=nv t.n:=by
 have h1:=Sb h.h;have h2:=Sb h.l;have e1:hi t.n=t.h:=by unfold hi Nu.n;omega
 have e2:lo t.n=t.l:=by unfold lo Nu.n;omega
 unfold nv;rw[e1,e2]
theorem Nu.n_lt{t:Nu}(h:t.In):t.n<YT:=by
 have h1:=Sb h.h;have h2:=Sb h.l;unfold Nu.n YT;omega
def Nd.fit(n:Nd):Bool:=decide (n.v.n % 2 ^ hw n.w=n.v.n)
theorem KO(n:Nd)(h:n.In)(w):Kp Zr w 32 #[.agg #[.int .u64 n.v.h,.int .u64 n.v.l],.int .i64 n.w] (.bool n.fit):=by
 rw[Nu.nv_eq h.v];exact fun y=>SK n.v.n n.w (Nu.n_lt h.v) (plus w y)
def Pg.env(p:Pg)(act:Int):Xf:=⟨p.heads.l.map (·.l),p.metas.l,if 0≤act∧act<(p.acts.l.length:Int) then (match p.acts.l[act.toNat]? with|some a=>a.params.l|none=>[]) else []⟩
def X0(p:Pg)(r:Nat):Value:=.agg #[p.heads.v,p.metas.v,p.steps.v,p.acts.v,p.tabs.v,p.control.v,p.emit.v,p.names.headers.v,p.names.fields.v,p.names.metas.v,p.names.actions.v,p.names.tables.v,.map (some r)]
def Nd.val(n:Nd):Value:=.agg #[.int .u8 n.op,.int .i64 n.w,.int .i64 n.a,.int .i64 n.b,.int .u64 n.v.h,.int .u64 n.v.l]
theorem QS(l:List (Sl Int))(n:Int):∃s:Sl Int,TQ l n=s.v∧s.l=(if 0≤n∧n<(l.length:Int) then (l.map (·.l)).getD n.toNat [] else [])∧(s=⟨none,0,[]⟩∨s∈l):=by
 unfold TQ;by_cases h:0≤n∧n<(l.length:Int)
 ·have hl:n.toNat<l.length:=by omega
  refine⟨l[n.toNat],?_,?_,.inr (List.getElem_mem hl)⟩
  ·rw[if_pos h,Zi hl]
  ·rw[if_pos h]
   simp[List.getD_eq_getElem?_getD,Zi hl]
 ·refine⟨⟨none,0,[]⟩,?_,?_,.inl rfl⟩
  ·rw[if_neg h];rfl
  ·rw[if_neg h]
theorem R9(w:World):(⟨none,0,[]⟩:Sl Int).In w 1 (Z8 .i64) (Yg .i64):=⟨Zp _,Zq _,fun i x hi=>by simp at hi,fun y hy=>by simp at hy⟩
theorem NX(l:List Int)(n:Int)(h:¬(0≤n∧n<(l.length:Int))):Xb l n=0:=if_neg h
theorem Pv(p:Pg)(act:Int)(a b:Int):T4 (p.env act) a b=Xb (if 0≤a∧a<(p.heads.l.length:Int) then (p.heads.l.map (·.l)).getD a.toNat [] else []) b:=by
 unfold T4 Pg.env;simp only[List.length_map];split
 ·rfl
 ·rw[NX]
  simp only[List.length_nil];omega
theorem Sc{W:World}{base:Nat}{e:TypeId}{size:Nat}{v:Value}{n:Nat}{xs:List Value}(h:W.ownsRow base e size v n xs):∃p c,v=.slice p n c∧n≤c∧(p=none→n=0∧c=0)∧∀a,p=some a→∃g,a=⟨g,0,none⟩∧base≤g∧g<W.heap.size:=by
 rcases h.2 with⟨rfl,h0⟩|⟨g,cap,cur,rfl,hg,hh,h3,_⟩
 ·exact⟨none,0,by rw[h0],by omega,fun _=>⟨h0,rfl⟩,fun a ha=>(by cases ha)⟩
 ·exact⟨_,cap,rfl,h3,fun hp=>(by cases hp),fun a ha=>by cases ha;exact⟨g,rfl,hg,(Array.getElem?_eq_some_iff.1 hh).1⟩⟩
theorem Rh{W W':World}{base:Nat}{e:TypeId}{size:Nat}{v:Value}{k:Nat}{xs:List Value}(h:W.ownsRow base e size v k xs)(hB:Below W.heap.size W W'):W'.ownsRow base e size v k xs:=by
 obtain⟨hl,h2⟩:=h;refine⟨hl,?_⟩;rcases h2 with h2|⟨g,cap,cur,hv,hg,hh,h3,h4,h5,h6⟩
 ·exact .inl h2
 ·have Zz:=(Array.getElem?_eq_some_iff.1 hh).1
  exact .inr ⟨g,cap,cur,hv,hg,(hB.block g Zz).trans hh,h3,h4,h5,h6⟩
theorem P8{W:World}{base:Nat}{e:TypeId}{p:Option Addr}{n c:Nat}{xs:List Value}(h:W.ownsRow base e 1 (.slice p n c) n xs){r:Nat}(hr:r≤n):W.ownsRow base e 1 (.slice p r c) r (xs.take r):=by
 obtain⟨hl,h2⟩:=h;refine⟨by rw[List.length_take];omega,?_⟩;rcases h2 with⟨hv,h0⟩|⟨g,cap,cur,hv,hg,hh,h3,h4,h5,h6⟩
 ·obtain rfl:r=0:=by omega
  simp only[Value.slice.injEq]at hv;obtain⟨rfl,-,rfl⟩:=hv;exact .inl ⟨rfl,rfl⟩
 ·simp only[Value.slice.injEq]at hv
  obtain⟨rfl,-,rfl⟩:=hv;refine .inr ⟨g,c,cur,rfl,hg,hh,by omega,h4,h5,?_⟩;rw[←h6,List.take_take,Nat.mul_one,Nat.mul_one,Nat.min_eq_left hr]
abbrev Xt(n:Int):List Value:=[.int .i64 n]
abbrev XJ(w:World)(base:Nat)(v:Value)(l:List Int):Prop:=w.ownsRow base 3 1 v l.length ((l.map Xt).flatten)
theorem Rc:(Zr.info? 3).map (fun i=>(i.zero,i.size,i.bytes))=some (some (.int .i64 0),1,8):=by kernel_rfl
theorem Rb(l:List Int):(l.map Xt).flatten=l.map fun n=>Zt .i64 n:=by induction l with
 | nil=>rfl
 | cons a l ih=>rw[List.map_cons,List.flatten_cons,ih];rfl
theorem VY{w:World}{base:Nat}{p:Option Addr}{n c:Nat}{l:List Int}(h:w.ownsRow base 3 1 (.slice p n c) n ((l.map Xt).flatten)){k:Nat}{x:Int}(hx:l[k]?=some x):∃g,p=some ⟨g,0,none⟩∧base≤g∧g<w.heap.size∧w.cell? ⟨g,k,none⟩=some (.int .i64 x):=by
 have hk:=(Zj.1 hx).1;have hl:=h.1;rw[Rb,List.length_map]at hl;have hn:n=l.length:=by omega
 rcases h.2 with⟨hv,h0⟩|⟨g,cap,cur,hv,hg,hh,_,_,_,_⟩
 ·omega
 ·simp only[Value.slice.injEq]at hv
  obtain⟨rfl,-,rfl⟩:=hv;refine⟨g,rfl,hg,(Array.getElem?_eq_some_iff.1 hh).1,?_⟩;rw[h.cellAt k (by omega),Rb,List.getElem?_map,hx];rfl
theorem OB{W:World}{base:Nat}(p)(n c:Nat){l:List Int}(hn:l.length=n){ops:Array Oper}{o:Oper}{a:Act}{K:Act→World→Prop}{Q:Exit→Act→World→Prop}{E:Prop}(h:W.ownsRow base 3 1 (.slice p n c) n ((l.map Xt).flatten))(Um:base≤W.heap.size)(hb:l.length≤1048576)(y)(g:Nat)(VJ:W.cell? ⟨g,0,none⟩=some (.int .i64 y))(VL:o.guard=none)(s x:Operand)(ho:o.op=.call { callee:=.builtin .append,args:=#[s,x],argTypes:=#[23,23] })(hs:a.eval s=.slice p n c)(hx:a.eval x=.slice (some ⟨g,0,none⟩) 1 1)(k:∀g' c' w',XJ w' base (.slice (some ⟨g',0,none⟩) (n+1) c') (l++[y])→W.grownBy w' (Value.slice p n c).ownBlock→K (a.put o.dst (.slice (some ⟨g',0,none⟩) (n+1) c')) w'):if Region.wanted o (yielded ops a.tmps)=true then Oper.wp Zr o a W K Q else E:=by
 obtain⟨i0,hi0,Ws,WH,hi3⟩:=info_parts Rc;refine step_append_lies W VL s x 23 ho base 3 i0 (.int .i64 0) 1 8 Tryz.underlying23 hi0 Ws WH hi3 rfl (by decide) (.slice p n c) n _ hs h ⟨g,0,none⟩ 1 1 (Xt y) hx rfl (fun j u hu=>by
   rw[Addr.add_lit,Nat.zero_add];match j,hu with
   | 0,hu=>obtain rfl:=Option.some.inj hu;exact VJ) (by intro u hu;simp only[List.mem_cons,List.not_mem_nil,or_false]at hu;subst hu;rfl)
  (by decide) (by simp only[maxLen];omega) (by omega) Um _ rfl fun g' cap w' h3 h4 _ _=>k g' cap w' (by
   subst hn;show w'.ownsRow base _ 1 _ (l++[y]).length (((l++[y]).map Xt).flatten)
   rw[List.length_append,List.map_append,List.flatten_append];simpa using h3) h4
theorem PU{w:World}{r b o:Nat}{es:Array MapEntry}{v:Value}(h:Yf w r es)(hc:w.cell? ⟨b,o,none⟩=some v):r≠b:=by
 rintro rfl;obtain⟨n,h⟩:=h;simp[World.cell?,h]at hc
theorem map_set{w:World}{r:Nat}{es:Array MapEntry}(h:Yf w r es)(b o:Nat)(v:Value)(hr:r≠b):Yf (w.setCell ⟨b,o,none⟩ v) r es:=by
 obtain⟨n,h⟩:=h;exact⟨n,by rw[Below.heap_setCell w ⟨b,o,none⟩ v r hr];exact h⟩
theorem XP{B:Nat}{a w:World}{b:Nat}(h:Below B a w)(hb:B≤b)(o:Nat)(u:Value):Below B a (w.setCell ⟨b,o,none⟩ u):=h.setCell hb u
theorem PM(q0p q0n q0c q1p q1n q1c q2p q2n q2c q3p q3n q3c q4p q4n q4c q5p q5n q5c q6p q6n q6c q7p q7n q7c q8p q8n q8c q9p q9n q9c q10p q10n q10c q11p q11n q11c)(w:World):Calls Zr 15 #[.agg #[.slice q0p q0n q0c,.slice q1p q1n q1c,.slice q2p q2n q2c,.slice q3p q3n q3c,.slice q4p q4n q4c,.slice q5p q5n q5c,.slice q6p q6n q6c,.slice q7p q7n q7c,.slice q8p q8n q8c,.slice q9p q9n q9c,.slice q10p q10n q10c,.slice q11p q11n q11c]] w fun e w'=>∃r,e=.returned (.agg #[.slice q0p q0n q0c,.slice q1p q1n q1c,.slice q2p q2n q2c,.slice q3p q3n q3c,.slice q4p q4n q4c,.slice q5p q5n q5c,.slice q6p q6n q6c,.slice q7p q7n q7c,.slice q8p q8n q8c,.slice q9p q9n q9c,.slice q10p q10n q10c,.slice q11p q11n q11c,.map (some r)])∧Yf w' r (X9 20)∧∃z,w'=plus w z:=by
 obtain⟨W,hW,ZY,hz,ca,cb,fa,fb⟩:=Vy w #[.slice q0p q0n q0c,.slice q1p q1n q1c,.slice q2p q2n q2c,.slice q3p q3n q3c,.slice q4p q4n q4c,.slice q5p q5n q5c,.slice q6p q6n q6c,.slice q7p q7n q7c,.slice q8p q8n q8c,.slice q9p q9n q9c,.slice q10p q10n q10c,.slice q11p q11n q11c] #[.slice none 0 0,.slice none 0 0,.slice none 0 0,.slice none 0 0,.slice none 0 0,.slice none 0 0,.slice none 0 0,.slice none 0 0,.slice none 0 0,.slice none 0 0,.slice none 0 0,.slice none 0 0,.map none] 33 82;have a0:∀z,(Go.Proofs.YtheaknidbcbneaaGreat.plus W.drew z).cell? ⟨w.heap.size,0,none⟩=_:=ca 0 _ rfl;have e0:=ca 0 _ rfl ⟨#[],W.drawn⟩;have a1:∀z,(Go.Proofs.YtheaknidbcbneaaGreat.plus W.drew z).cell? ⟨w.heap.size,1,none⟩=_:=ca 1 _ rfl;have e1:=ca 1 _ rfl ⟨#[],W.drawn⟩;have a2:∀z,(Go.Proofs.YtheaknidbcbneaaGreat.plus W.drew z).cell? ⟨w.heap.size,2,none⟩=_:=ca 2 _ rfl;have e2:=ca 2 _ rfl ⟨#[],W.drawn⟩;have a3:∀z,(Go.Proofs.YtheaknidbcbneaaGreat.plus W.drew z).cell? ⟨w.heap.size,3,none⟩=_:=ca 3 _ rfl;have e3:=ca 3 _ rfl ⟨#[],W.drawn⟩;have a4:∀z,(Go.Proofs.YtheaknidbcbneaaGreat.plus W.drew z).cell? ⟨w.heap.size,4,none⟩=_:=ca 4 _ rfl;have e4:=ca 4 _ rfl ⟨#[],W.drawn⟩;have a5:∀z,(Go.Proofs.YtheaknidbcbneaaGreat.plus W.drew z).cell? ⟨w.heap.size,5,none⟩=_:=ca 5 _ rfl;have e5:=ca 5 _ rfl ⟨#[],W.drawn⟩;have a6:∀z,(Go.Proofs.YtheaknidbcbneaaGreat.plus W.drew z).cell? ⟨w.heap.size,6,none⟩=_:=ca 6 _ rfl;have e6:=ca 6 _ rfl ⟨#[],W.drawn⟩;have a7:∀z,(Go.Proofs.YtheaknidbcbneaaGreat.plus W.drew z).cell? ⟨w.heap.size,7,none⟩=_:=ca 7 _ rfl;have e7:=ca 7 _ rfl ⟨#[],W.drawn⟩;have a8:∀z,(Go.Proofs.YtheaknidbcbneaaGreat.plus W.drew z).cell? ⟨w.heap.size,8,none⟩=_:=ca 8 _ rfl;have e8:=ca 8 _ rfl ⟨#[],W.drawn⟩;have a9:∀z,(Go.Proofs.YtheaknidbcbneaaGreat.plus W.drew z).cell? ⟨w.heap.size,9,none⟩=_:=ca 9 _ rfl;have e9:=ca 9 _ rfl ⟨#[],W.drawn⟩;have a10:∀z,(Go.Proofs.YtheaknidbcbneaaGreat.plus W.drew z).cell? ⟨w.heap.size,10,none⟩=_:=ca 10 _ rfl;have e10:=ca 10 _ rfl ⟨#[],W.drawn⟩;have a11:∀z,(Go.Proofs.YtheaknidbcbneaaGreat.plus W.drew z).cell? ⟨w.heap.size,11,none⟩=_:=ca 11 _ rfl;have e11:=ca 11 _ rfl ⟨#[],W.drawn⟩;rw[ZK]at e0 e1 e2 e3 e4 e5 e6 e7 e8 e9 e10 e11;have b0:∀z,(Go.Proofs.YtheaknidbcbneaaGreat.plus W.drew z).cell? ⟨w.heap.size+1,0,none⟩=_:=cb 0 _ rfl;have b1:∀z,(Go.Proofs.YtheaknidbcbneaaGreat.plus W.drew z).cell? ⟨w.heap.size+1,1,none⟩=_:=cb 1 _ rfl;have b2:∀z,(Go.Proofs.YtheaknidbcbneaaGreat.plus W.drew z).cell? ⟨w.heap.size+1,2,none⟩=_:=cb 2 _ rfl;have b3:∀z,(Go.Proofs.YtheaknidbcbneaaGreat.plus W.drew z).cell? ⟨w.heap.size+1,3,none⟩=_:=cb 3 _ rfl;have b4:∀z,(Go.Proofs.YtheaknidbcbneaaGreat.plus W.drew z).cell? ⟨w.heap.size+1,4,none⟩=_:=cb 4 _ rfl;have b5:∀z,(Go.Proofs.YtheaknidbcbneaaGreat.plus W.drew z).cell? ⟨w.heap.size+1,5,none⟩=_:=cb 5 _ rfl;have b6:∀z,(Go.Proofs.YtheaknidbcbneaaGreat.plus W.drew z).cell? ⟨w.heap.size+1,6,none⟩=_:=cb 6 _ rfl;have b7:∀z,(Go.Proofs.YtheaknidbcbneaaGreat.plus W.drew z).cell? ⟨w.heap.size+1,7,none⟩=_:=cb 7 _ rfl
 have b8:∀z,(Go.Proofs.YtheaknidbcbneaaGreat.plus W.drew z).cell? ⟨w.heap.size+1,8,none⟩=_:=cb 8 _ rfl;have b9:∀z,(Go.Proofs.YtheaknidbcbneaaGreat.plus W.drew z).cell? ⟨w.heap.size+1,9,none⟩=_:=cb 9 _ rfl;have b10:∀z,(Go.Proofs.YtheaknidbcbneaaGreat.plus W.drew z).cell? ⟨w.heap.size+1,10,none⟩=_:=cb 10 _ rfl;have b11:∀z,(Go.Proofs.YtheaknidbcbneaaGreat.plus W.drew z).cell? ⟨w.heap.size+1,11,none⟩=_:=cb 11 _ rfl;have b12:∀z,(Go.Proofs.YtheaknidbcbneaaGreat.plus W.drew z).cell? ⟨w.heap.size+1,12,none⟩=_:=cb 12 _ rfl;have YG:=Zg ZY;have hF:=Zg (fun V=>M8 V);have gb:∀z o,(Go.Proofs.YtheaknidbcbneaaGreat.plus W.drew z).frozen? ⟨w.heap.size+1,o,none⟩=false:=fb;clear ca cb fa fb ZY hz;go_enter func15,ntmps15;go_upto_region 1 with (fail)
 rw[←hW];clear hW;go_region_law (go_simp;go_at_call 38;refine (hF.out _).mono ?_;rintro e w' ⟨r,rfl,hm,z,rfl⟩);all_goals go_wp2
 all_goals have YP:=PU hm (b0 z)
 all_goals refine bodyPost_ret (v:=.agg #[.slice q0p q0n q0c,.slice q1p q1n q1c,.slice q2p q2n q2c,.slice q3p q3n q3c,.slice q4p q4n q4c,.slice q5p q5n q5c,.slice q6p q6n q6c,.slice q7p q7n q7c,.slice q8p q8n q8c,.slice q9p q9n q9c,.slice q10p q10n q10c,.slice q11p q11n q11c,.map (some r)]) (by simp[results,Tryz.results15,go_sem,b0 z,b1 z,b2 z,b3 z,b4 z,b5 z,b6 z,b7 z,b8 z,b9 z,b10 z,b11 z,b12 z]) rfl ⟨r,rfl,?_,?_⟩
 all_goals first
  | exact id (map_set (map_set (map_set (map_set (map_set (map_set (map_set (map_set (map_set (map_set (map_set (map_set (map_set hm _ _ _ YP) _ _ _ YP) _ _ _ YP) _ _ _ YP) _ _ _ YP) _ _ _ YP) _ _ _ YP) _ _ _ YP) _ _ _ YP) _ _ _ YP) _ _ _ YP) _ _ _ YP) _ _ _ YP)
  | exact ZS (XP (XP (XP (XP (XP (XP (XP (XP (XP (XP (XP (XP (XP (YG.out.trans ((Z9 W z).mono YG.out.size)) (Nat.le_succ _) _ _) (Nat.le_succ _) _ _) (Nat.le_succ _) _ _) (Nat.le_succ _) _ _) (Nat.le_succ _) _ _) (Nat.le_succ _) _ _) (Nat.le_succ _) _ _) (Nat.le_succ _) _ _) (Nat.le_succ _) _ _) (Nat.le_succ _) _ _) (Nat.le_succ _) _ _) (Nat.le_succ _) _ _) (Nat.le_succ _) _ _)
end Go.Proofs.YtheaknidbcbneaaGreat
