/-
  WHAT IS PROVED HERE: a part of the proof (made narrower and merged by program; the parts: Lpo Lra).
-/
import Derived.Test.YtheaknidbcbneaaGreatM34
import Derived.Test.YtheaknidbcbneaaGreatM35
import Derived.Test.YtheaknidbcbneaaGreatM36
import Derived.Test.YtheaknidbcbneaaGreatM31
import Derived.Test.YtheaknidbcbneaaGreatM17
set_option maxRecDepth 100000
set_option maxHeartbeats 8000000
set_option linter.all false
namespace Go.Proofs.YtheaknidbcbneaaGreat
open Go.RowKit Go.Proofs.Tryz
open Bool renaming and_eq_true→Zd
open Ending renaming returned→Zf
open Lib renaming hid→Zg
open List renaming drop_of_length_le→Zh,getElem?_eq_some_iff→Zj,mem_of_getElem?→Zl
open Nat renaming le_refl→Zp,zero_le→Zq
open Go.Proofs.Tryz renaming prog→Zr
open Value renaming bool→Zs,int→Zt
open Go.RowKit
def Tq(p:Pg):Bool:=ZM 0 8 (fun _ h=>VV h.l) p.heads.l&&(ZM 0 16 Yv p.metas.l&&(ZM 1 16 (fun _ s=>Tx p s) p.steps.l&&(Vv (gF p.steps.l)&&(ZM 0 16 (fun i a=>Sk p i a) p.acts.l&&(ZM 0 8 (fun _ t=>SO p t) p.tabs.l&&(ZM 0 65536 (XD p (-1) p.control.l.length) p.control.l&&(ZM 0 8 (X7 p.heads.l.length p.emit.l) p.emit.l&&R7 p)))))))
theorem Na{p:Pg}{t:Int}(h:Tz p t=true):t<(p.steps.l.length:Int):=by
 unfold Tz YE at h;simp only[Bool.or_eq_true,Zd,beq_iff_eq,decide_eq_true_eq]at h;omega
theorem OY{p:Pg}{s:Sp}(h:Tx p s=true):∀t∈Ud s,t<(p.steps.l.length:Int):=by
 unfold Tx at h;rw[Zd]at h;have h2:=h.2;unfold Ud;by_cases hk:s.keys.l.length=0
 ·rw[if_pos hk]
  rw[hk]at h2;intro t ht;obtain rfl:=List.mem_singleton.1 ht;simp only[Int.natCast_zero,beq_self_eq_true,if_true,Zd]at h2;exact Na h2.2
 ·rw[if_neg hk]
  have e:((s.keys.l.length:Int)==0)=false:=by rw[beq_eq_false_iff_ne];omega
  rw[e]at h2;simp only[Bool.false_eq_true,if_false,Zd]at h2;intro t ht;obtain⟨b,hb,rfl⟩:=List.mem_map.1 ht;obtain⟨i,hi⟩:=List.getElem?_of_mem hb;have:=RN h2.2.2 hi;unfold Sn at this;rw[Zd]at this;exact Na this.1
theorem NE(x:At):OP x.cells:=⟨_,_,_,_,_,_,rfl⟩
theorem Fo(x:Tb):OV x.cells:=⟨_,_,_,_,_,_,_,_,_,_,_,_,_,rfl⟩
theorem G1(x:Sp):OU x.cells:=⟨_,_,_,_,_,_,_,_,_,_,rfl⟩
theorem Jk(p:Pg)(mr:Nat)(w:World)(hp:p.In w)(hz:p.sz≤1048576)(hm:Yf w mr (X9 20)):Kp Zr w 21 #[X0 p mr] (.bool (Tq p)):=by
 have l0:=Qd hz;have l1:=Oh hz;have l2:=Yw Sp.sz (fun _=>by unfold Sp.sz;omega) p.steps.l;have l3:=Yw At.sz (fun _=>by unfold At.sz;omega) p.acts.l;have l4:=Yw Tb.sz (fun _=>by unfold Tb.sz;omega) p.tabs.l;have l5:=Yw ZZ.sz (fun _=>by unfold ZZ.sz;omega) p.control.l;have l6:=Yw YL (fun _=>Zp _) p.emit.l;have Zw:=hz;unfold Pg.sz Sl.size at Zw;have hsp:∀s∈p.steps.l,s.sz≤1048576:=fun s hs=>by have:=We Sp.sz p.steps.l s hs;omega
 have VH:∀a∈p.acts.l,a.sz≤1048576:=fun a ha=>by have:=We At.sz p.acts.l a ha;omega
 have htb:∀t∈p.tabs.l,t.sz≤1048576:=fun t ht=>by have:=We Tb.sz p.tabs.l t ht;omega
 unfold Tq;refine Jp _ _ _ _ _ _ _ _ _ _ _ _ _ _ _ _ _ _ _ _ _ _ _ _ _ _ _ _ _ _ _ _ _ _ _ _ _ _ _ _ _ _ _ _ _ _ w
  (MO (fun _ h=>VV h.l) 43 #[] #[] _ w p.heads 0 8 hp.heads l0 (enters_of func43 (by kernel_rfl) rfl) (fun j x hx=>Jj (j:Int) x w (hp.heads.kids x (Zl hx)) (by have:=Qm p.heads.l x (Zl hx);omega)))
  (PH p.metas 0 16 w hp.metas l1)
  (MQ Sp.cells G1 (fun _ s=>Tx p s) 47 #[X0 p mr] #[] _ w p.steps 1 16 hp.steps (by omega) (enters_of func47 (by kernel_rfl) rfl) (fun j s hs=>JN p mr j s w hp hz hm (hp.steps.kids s (Zl hs)) (hsp s (Zl hs))))
  (fun Ve y=>KC p.steps (plus w y) (hp.steps.plus (fun z (h:Sp.In w z)=>h.plus y) y) (by omega) (fun s hs=>by
   have:=Yw Br.sz (fun _=>by unfold Br.sz;omega) s.branches.l;have:=hsp s hs;unfold Sp.sz Sl.size at this;omega) (fun s hs=>by
   obtain⟨i,hi⟩:=List.getElem?_of_mem hs;exact OY (RN Ve hi)))
  (ML At.cells NE (fun i a=>Sk p i a) 50 #[X0 p mr] #[] _ w p.acts 0 16 hp.acts (by omega) (enters_of func50 (by kernel_rfl) rfl) (fun j a ha=>by
   have h1:=Yw YL (fun _=>Zp _) a.params.l;have h2:=Yw ZZ.sz (fun _=>by unfold ZZ.sz;omega) a.body.l;have h3:=VH a (Zl ha);unfold At.sz Sl.size at h3;exact Kc p mr j a w hp hz hm (hp.acts.kids a (Zl ha)) (by omega) (by omega)))
  (MR Tb.cells Fo (fun _ t=>SO p t) 52 #[X0 p mr] #[] _ w p.tabs 0 8 hp.tabs (by omega) (enters_of func52 (by kernel_rfl) rfl) (fun j t ht=>JP p mr j t w hp hz hm (hp.tabs.kids t (Zl ht)) (htb t (Zl ht))))
  (PI p mr (-1) p.control w hp hz hm hp.control (by omega))
  (JJ p.emit p.heads 0 8 w hp.emit (by omega))
  (Js p mr w hp hz)
theorem L5(q0p q0n q0c q1p q1n q1c q2p q2n q2c q3p q3n q3c q4p q4n q4c q5p q5n q5c q6p q6n q6c q7p q7n q7c q8p q8n q8c q9p q9n q9c q10p q10n q10c q11p q11n q11c b)(w:World)(h:∀(W:World) (r:Nat),(∃z,W=plus w z)→Yf W r (X9 20)→Kp Zr W 21 #[.agg #[.slice q0p q0n q0c,.slice q1p q1n q1c,.slice q2p q2n q2c,.slice q3p q3n q3c,.slice q4p q4n q4c,.slice q5p q5n q5c,.slice q6p q6n q6c,.slice q7p q7n q7c,.slice q8p q8n q8c,.slice q9p q9n q9c,.slice q10p q10n q10c,.slice q11p q11n q11c,.map (some r)]] (.bool b)) :
  Calls Zr 8 #[.agg #[.slice q0p q0n q0c,.slice q1p q1n q1c,.slice q2p q2n q2c,.slice q3p q3n q3c,.slice q4p q4n q4c,.slice q5p q5n q5c,.slice q6p q6n q6c,.slice q7p q7n q7c,.slice q8p q8n q8c,.slice q9p q9n q9c,.slice q10p q10n q10c,.slice q11p q11n q11c]] w fun e w'=>e=.returned (.bool b)∧∃x,w'=plus w x:=by
 obtain⟨W,hW,ZY,hz,ca,-⟩:=Vx w #[.slice q0p q0n q0c,.slice q1p q1n q1c,.slice q2p q2n q2c,.slice q3p q3n q3c,.slice q4p q4n q4c,.slice q5p q5n q5c,.slice q6p q6n q6c,.slice q7p q7n q7c,.slice q8p q8n q8c,.slice q9p q9n q9c,.slice q10p q10n q10c,.slice q11p q11n q11c] 33;have a0:=ca 0 _ rfl ⟨#[],W.drawn⟩;have a1:=ca 1 _ rfl ⟨#[],W.drawn⟩;have a2:=ca 2 _ rfl ⟨#[],W.drawn⟩;have a3:=ca 3 _ rfl ⟨#[],W.drawn⟩;have a4:=ca 4 _ rfl ⟨#[],W.drawn⟩;have a5:=ca 5 _ rfl ⟨#[],W.drawn⟩;have a6:=ca 6 _ rfl ⟨#[],W.drawn⟩;have a7:=ca 7 _ rfl ⟨#[],W.drawn⟩;have a8:=ca 8 _ rfl ⟨#[],W.drawn⟩;have a9:=ca 9 _ rfl ⟨#[],W.drawn⟩;have a10:=ca 10 _ rfl ⟨#[],W.drawn⟩;have a11:=ca 11 _ rfl ⟨#[],W.drawn⟩;rw[ZK]at a0 a1 a2 a3 a4 a5 a6 a7 a8 a9 a10 a11;obtain⟨z,hzW⟩:=ZS ZY;have Zw:=Zg hzW;have h':=Zg h;have hN:=Zg (PM q0p q0n q0c q1p q1n q1c q2p q2n q2c q3p q3n q3c q4p q4n q4c q5p q5n q5c q6p q6n q6c q7p q7n q7c q8p q8n q8c q9p q9n q9c q10p q10n q10c q11p q11n q11c W);clear h ZY hz ca hzW;go_enter func8,ntmps8;go_upto_region 1 with (fail)
 rw[←hW];clear hW;go_wp2_with fail;refine hN.out.mono ?_;rintro e w' ⟨r,rfl,hm,y,rfl⟩;have hM:=Zg (h'.out (plus W y) r (by rw[Zw.out,Zx];exact⟨_,rfl⟩) hm);clear hm hN h';go_wp2_with fail;refine (YN hM.out).mono ?_;rintro e w' ⟨rfl,x1,rfl⟩;go_wp2_with fail;go_ret;exact⟨rfl,by rw[Zw.out,Zx,Zx];exact⟨_,rfl⟩⟩
theorem L4(p:Pg)(w:World)(hp:p.In w)(hz:p.sz≤1048576):Calls Zr 8 #[p.val] w fun e w'=>e=.returned (.bool (Tq p))∧∃x,w'=plus w x :=
 L5 _ _ _ _ _ _ _ _ _ _ _ _ _ _ _ _ _ _ _ _ _ _ _ _ _ _ _ _ _ _ _ _ _ _ _ _ _ w fun W r hW hm=>by
  obtain⟨z,rfl⟩:=hW;exact Jk p r _ (hp.plus z) hz hm
theorem L8(q0p q0n q0c q1p q1n q1c q2p q2n q2c q3p q3n q3c q4p q4n q4c q5p q5n q5c q6p q6n q6c q7p q7n q7c q8p q8n q8c q9p q9n q9c q10p q10n q10c q11p q11n q11c act cp cn cc R1 R2)(w:World)(h:∀(W:World) (r:Nat),(∃z,W=plus w z)→Yf W r (X9 20)→Kp Zr W 16 #[.agg #[.slice q0p q0n q0c,.slice q1p q1n q1c,.slice q2p q2n q2c,.slice q3p q3n q3c,.slice q4p q4n q4c,.slice q5p q5n q5c,.slice q6p q6n q6c,.slice q7p q7n q7c,.slice q8p q8n q8c,.slice q9p q9n q9c,.slice q10p q10n q10c,.slice q11p q11n q11c,.map (some r)],.int .i64 act,.slice cp cn cc] (.tuple #[.int .i64 R1,.bool R2])) :
  Calls Zr 6 #[.agg #[.slice q0p q0n q0c,.slice q1p q1n q1c,.slice q2p q2n q2c,.slice q3p q3n q3c,.slice q4p q4n q4c,.slice q5p q5n q5c,.slice q6p q6n q6c,.slice q7p q7n q7c,.slice q8p q8n q8c,.slice q9p q9n q9c,.slice q10p q10n q10c,.slice q11p q11n q11c],.int .i64 act,.slice cp cn cc] w fun e w'=>e=.returned (.tuple #[.int .i64 R1,.bool R2])∧∃x,w'=plus w x:=by
 obtain⟨W,hW,ZY,hz,ca,-⟩:=Vx w #[.slice q0p q0n q0c,.slice q1p q1n q1c,.slice q2p q2n q2c,.slice q3p q3n q3c,.slice q4p q4n q4c,.slice q5p q5n q5c,.slice q6p q6n q6c,.slice q7p q7n q7c,.slice q8p q8n q8c,.slice q9p q9n q9c,.slice q10p q10n q10c,.slice q11p q11n q11c] 33;have a0:=ca 0 _ rfl ⟨#[],W.drawn⟩;have a1:=ca 1 _ rfl ⟨#[],W.drawn⟩;have a2:=ca 2 _ rfl ⟨#[],W.drawn⟩;have a3:=ca 3 _ rfl ⟨#[],W.drawn⟩;have a4:=ca 4 _ rfl ⟨#[],W.drawn⟩;have a5:=ca 5 _ rfl ⟨#[],W.drawn⟩;have a6:=ca 6 _ rfl ⟨#[],W.drawn⟩;have a7:=ca 7 _ rfl ⟨#[],W.drawn⟩;have a8:=ca 8 _ rfl ⟨#[],W.drawn⟩;have a9:=ca 9 _ rfl ⟨#[],W.drawn⟩;have a10:=ca 10 _ rfl ⟨#[],W.drawn⟩;have a11:=ca 11 _ rfl ⟨#[],W.drawn⟩;rw[ZK]at a0 a1 a2 a3 a4 a5 a6 a7 a8 a9 a10 a11;obtain⟨z,hzW⟩:=ZS ZY;have Zw:=Zg hzW;have h':=Zg h;have hN:=Zg (PM q0p q0n q0c q1p q1n q1c q2p q2n q2c q3p q3n q3c q4p q4n q4c q5p q5n q5c q6p q6n q6c q7p q7n q7c q8p q8n q8c q9p q9n q9c q10p q10n q10c q11p q11n q11c W);clear h ZY hz ca hzW;go_enter func6,ntmps6;go_upto_region 1 with (fail)
 rw[←hW];clear hW;go_wp2_with fail;refine hN.out.mono ?_;rintro e w' ⟨r,rfl,hm,y,rfl⟩;have hM:=Zg (h'.out (plus W y) r (by rw[Zw.out,Zx];exact⟨_,rfl⟩) hm);clear hm hN h';go_wp2_with fail;refine (YN hM.out).mono ?_;rintro e w' ⟨rfl,x1,rfl⟩;go_wp2_with fail;refine bodyPost_ret (v:=.tuple #[.int .i64 R1,.bool R2]) (by simp[results,Tryz.results6,go_sem]) rfl ⟨rfl,by rw[Zw.out,Zx,Zx];exact⟨_,rfl⟩⟩
theorem L7(p:Pg)(act)(c:Sl Nd)(w:World)(hp:p.In w)(hz:p.sz≤1048576)(hc:c.In w 6 Nd.cells Nd.In):Calls Zr 6 #[p.val,.int .i64 act,c.v] w fun e w'=>e=.returned (.tuple #[.int .i64 (YR (p.env act) c.l).1,.bool (YR (p.env act) c.l).2])∧∃x,w'=plus w x :=
 L8 _ _ _ _ _ _ _ _ _ _ _ _ _ _ _ _ _ _ _ _ _ _ _ _ _ _ _ _ _ _ _ _ _ _ _ _ act c.p c.l.length c.cap _ _ w fun W r hW hm=>by
  obtain⟨z,rfl⟩:=hW;exact R5 p r act c _ (hp.plus z) hz (hc.plus (fun _ a=>a) z) hm
theorem Qj(a w) :
  Kp Zr w 20 #[.int .i64 a] (.bool (decide (0<a)&&decide (a<129))):=by
 intro y0;obtain⟨V,hV⟩:=Zv (plus w y0);rw[hV]at ⊢;clear hV;obtain⟨R,hR⟩:=Zv (decide (0<a)&&decide (a<129));rw[hR];by_cases q1:0<a
 case neg =>
  have hF:=Zg (show (false)=R by first|exact hR|(rw[←hR];simp[q1]));clear hR;go_enter func20,ntmps20;go_wp2_with fail;go_ret;exact⟨congrArg (fun z=>Zf (Zs z)) hF.out,YD _⟩
 case pos =>
  by_cases q2:a<129
  case neg =>
   have hF:=Zg (show (false)=R by first|exact hR|(rw[←hR];simp[q1,q2]));clear hR;go_enter func20,ntmps20;go_wp2_with fail;go_ret;exact⟨congrArg (fun z=>Zf (Zs z)) hF.out,YD _⟩
  case pos =>
   have hF:=Zg (show (true)=R by first|exact hR|(rw[←hR];simp[q1,q2]));clear hR;go_enter func20,ntmps20;go_wp2_with fail;go_ret;exact⟨congrArg (fun z=>Zf (Zs z)) hF.out,YD _⟩
theorem H4(a:Int)(i:Nat):(decide (0<a)&&decide (a<129))=Yv i a:=by
 unfold Yv;rw[Bool.eq_iff_iff];simp only[Zd,decide_eq_true_eq];omega
theorem Qi(A:Sl Int)(n)(K:Int→Prop)(w:World)(hA:A.In w 1 (Z8 .i64) K):Kp Zr w 41 #[A.v,.int .i64 n] (Zt .i64 (Xb A.l n)):=by
 intro y0;obtain⟨p,cap,l⟩:=A;simp only[Sl.v];have hA:=hA.row.plus y0;obtain⟨W,hW⟩:=Zv (plus w y0);rw[hW]at hA ⊢;clear hW;obtain⟨R,hR⟩:=Zv (Zt .i64 (Xb l n));rw[hR];by_cases hn:0≤n∧n<(l.length:Int)
 case pos =>
  obtain⟨k,rfl⟩:∃k:Nat,n=(k:Int):=⟨n.toNat,by omega⟩;have Zz:k<l.length:=by omega
  obtain⟨x,hx⟩:=Z6 l k Zz;obtain⟨pa,rfl,hc⟩:=hA k x hx;have d0:=(hc.c0 _ rfl:W.cell? _=some (.int .i64 x));simp only[Nat.mul_one]at d0;have hF:=Zg (show Zt .i64 x=R by rw[←hR];unfold Xb;rw[if_pos hn];simp[hx]);obtain⟨m,hm⟩:=Zv l.length;rw[hm]at Zz ⊢;have k0:¬((k:Int)<0):=by omega
  have k1:(k:Int)<(m:Int):=by omega
  have k2:¬(m:Int)≤(k:Int):=by omega
  have e0:decide ((k:Int)<0)=false:=decide_eq_false k0;have e1:decide ((m:Int)≤(k:Int))=false:=decide_eq_false k2;clear hR hA hc hn hx hm;go_enter func41,ntmps41;go_wp2;go_ret;exact⟨congrArg Zf hF.out,_,(ZK W).symm⟩
 case neg =>
  have hF:=Zg (show Zt .i64 0=R by rw[←hR];unfold Xb;rw[if_neg hn]);obtain⟨m,hm⟩:=Zv l.length;rw[hm]at hn ⊢;clear hR hA hm;by_cases h0:n<0
  ·have e0:decide (n<0)=true:=decide_eq_true h0
   go_enter func41,ntmps41;go_wp2;go_ret;exact⟨congrArg Zf hF.out,_,(ZK W).symm⟩
  ·have h1:(m:Int)≤n:=by omega
   have e0:decide (n<0)=false:=decide_eq_false h0;have e1:decide ((m:Int)≤n)=true:=decide_eq_true h1;go_enter func41,ntmps41;go_wp2;go_ret;exact⟨congrArg Zf hF.out,_,(ZK W).symm⟩
theorem NQ{α:Type}(f:α→Bool)(l:List α)(k:Nat)(x:α)(hx:l[k]?=some x):(l.drop k).any f=(f x||(l.drop (k+1)).any f):=by
 obtain⟨h1,rfl⟩:=Zj.1 hx;rw[List.drop_eq_getElem_cons h1,List.any_cons]
theorem RC{α:Type}(f:α→Bool)(l:List α)(k:Nat)(x:α)(hx:l[k]?=some x):(l.drop k).all f=(f x&&(l.drop (k+1)).all f):=by
 obtain⟨h1,rfl⟩:=Zj.1 hx;rw[List.drop_eq_getElem_cons h1,List.all_cons]
theorem Qh(w:World)(p:Option Addr)(c:Nat)(l:List Int)(v)(hA:Z2 w 1 (fun x=>[.int .i64 x]) p l)(hl:l.length≤1048576):Kp Zr w 33 #[.slice p l.length c,.int .i64 v] (.bool (l.any fun x=>x==v)):=by
 intro y0;obtain⟨n,hn⟩:=Zv l.length;have hA:=hA.plus y0;obtain⟨W,hW⟩:=Zv (plus w y0);rw[hW]at hA ⊢;rw[hn]at hl;clear hW;obtain⟨R,hR⟩:=Zv (l.any fun x=>x==v);have h0:((l.drop 0).any fun x=>x==v)=R:=hR;rw[hn,hR];have ZR:=Zg hA;have ZJ:=Zg hn;have ZX:=Zg hl;have Yd:=Zg h0;clear hA hl hn hR h0;go_enter func33,ntmps33;go_wp2;go_loopw [5] (fun iv wr=>∃k:Nat,k≤n∧iv=.int .i64 (k:Int)∧Hid (((l.drop k).any fun x=>x==v)=R)∧∃y,wr=plus W y) (fun iv _=>n-(intOf iv).toNat)
 case atStart=>exact⟨0,Zq _,rfl,Yd,⟨#[],W.drawn⟩,(ZK W).symm⟩
 case round =>
  obtain⟨k,hk,rfl,hs,y,rfl⟩:=hrel;by_cases Zz:k<n
  ·obtain⟨a,ha⟩:=Z6 l k (by rw[ZJ.out];exact Zz)
   obtain⟨pa,rfl,hc⟩:=ZR.out k a ha;have ZB:((a==v)||((l.drop (k+1)).any fun x=>x==v))=R:=by rw[←NQ (fun x=>x==v) l k a ha];exact hs.out
   have d0:=fun y=>(hc.plus y).c0 _ rfl;simp only[Nat.mul_one]at d0;have a6:=Zg (Yo k n Zz ZX.out);have k0:¬((k:Int)<0):=by omega
   have k1:(k:Int)<(n:Int):=by omega
   clear hc ha hs;by_cases q:a=v
   ·have e1:(a==v)=true:=by rw[q];simp
    have ZD:=Zg (show true=R by rw[←ZB,e1];rfl);clear ZB;go_wp2;go_ret;exact⟨congrArg (fun z=>Zf (Zs z)) ZD.out,_,rfl⟩
   ·have e1:(a==v)=false:=by simpa using q
    have ZD:=Zg (show ((l.drop (k+1)).any fun x=>x==v)=R by rw[←ZB,e1];rfl);clear ZB;go_wp2;go_roundw
    case rel=>exact⟨k+1,Zz,congrArg (Zt .i64) a6.out,ZD,_,rfl⟩
    case measure=>exact YF k n Zz a6.out
  ·obtain rfl:k=n:=by omega
   have ZD:=Zg (show false=R by
    rw[←hs.out,Zh (by rw[ZJ.out];exact Zp _)];rfl)
   clear hs Zz hk;go_wp2;go_ret;exact⟨congrArg (fun z=>Zf (Zs z)) ZD.out,y,rfl⟩
theorem Qk(A:Sl Int)(w:World)(hA:A.In w 1 (Z8 .i64) (Yg .i64))(hl:A.l.length≤1048576):Kp Zr w 23 #[A.v] (.bool (A.l.all (Yv 0))):=by
 intro y0;obtain⟨p,cap,l⟩:=A;simp only[Sl.v]at hl ⊢;obtain⟨n,hn⟩:=Zv l.length;have hA:=hA.row.plus y0;obtain⟨W,hW⟩:=Zv (plus w y0);rw[hW]at hA ⊢;rw[hn]at hl;clear hW;obtain⟨R,hR⟩:=Zv (l.all (Yv 0));have h0:((l.drop 0).all (Yv 0))=R:=hR;rw[hn,hR];have ZR:=Zg hA;have ZJ:=Zg hn;have ZX:=Zg hl;have Yd:=Zg h0;clear hA hl hn hR h0;go_enter func23,ntmps23;go_wp2;go_loopw [3] (fun iv wr=>∃k:Nat,k≤n∧iv=.int .i64 (k:Int)∧Hid (((l.drop k).all (Yv 0))=R)∧∃y,wr=plus W y) (fun iv _=>n-(intOf iv).toNat)
 case atStart=>exact⟨0,Zq _,rfl,Yd,⟨#[],W.drawn⟩,(ZK W).symm⟩
 case round =>
  obtain⟨k,hk,rfl,hs,y,rfl⟩:=hrel;by_cases Zz:k<n
  ·obtain⟨a,ha⟩:=Z6 l k (by rw[ZJ.out];exact Zz)
   obtain⟨pa,rfl,hc⟩:=ZR.out k a ha;have ZB:(Yv 0 a&&((l.drop (k+1)).all (Yv 0)))=R:=by rw[←RC (Yv 0) l k a ha];exact hs.out
   have d0:∀y,(Go.Proofs.YtheaknidbcbneaaGreat.plus W y).cell? _=some (.int .i64 a):=fun y=>(hc.plus y).c0 _ rfl;simp only[Nat.mul_one]at d0;have q1:=(Qj a W).eqv (congrArg Zs (H4 a 0));obtain⟨Z,hZ⟩:=Zv (Yv 0 a);rw[hZ]at q1 ZB;have q1':=Zg q1.pure;have a6:=Zg (Yo k n Zz ZX.out);have k0:¬((k:Int)<0):=by omega
   have k1:(k:Int)<(n:Int):=by omega
   clear hc ha hs q1 hZ;cases Z with
   | false =>
    have ZD:=Zg (show false=R by rw[←ZB];rfl);clear ZB;go_wp2_with (refine (q1'.out _).mono ?_;rintro e w' ⟨rfl,x,rfl⟩);go_ret;exact⟨congrArg (fun z=>Zf (Zs z)) ZD.out,_,rfl⟩
   | true =>
    have ZD:=Zg (show ((l.drop (k+1)).all (Yv 0))=R by rw[←ZB];rfl);clear ZB;go_wp2_with (refine (q1'.out _).mono ?_;rintro e w' ⟨rfl,x,rfl⟩);go_roundw
    case rel=>exact⟨k+1,Zz,congrArg (Zt .i64) a6.out,ZD,_,rfl⟩
    case measure=>exact YF k n Zz a6.out
  ·obtain rfl:k=n:=by omega
   have ZD:=Zg (show true=R by
    rw[←hs.out,Zh (by rw[ZJ.out];exact Zp _)];rfl)
   clear hs Zz hk;go_wp2;go_ret;exact⟨congrArg (fun z=>Zf (Zs z)) ZD.out,y,rfl⟩
end Go.Proofs.YtheaknidbcbneaaGreat
