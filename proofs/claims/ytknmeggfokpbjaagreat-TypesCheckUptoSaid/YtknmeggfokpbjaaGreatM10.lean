/-
  WHAT IS PROVED HERE: a part of the proof (made narrower and merged by program; the parts: HL).
-/
import Derived.Test.YtknmeggfokpbjaaGreatM9
set_option maxRecDepth 100000
set_option maxHeartbeats 8000000
set_option linter.all false
namespace Go.Proofs.YtknmeggfokpbjaaGreat
open Z
open Go.RowKit Go.Proofs.Tryz
open Ending renaming returned→Zd
open Lib renaming hid→Zf
open Nat renaming le_refl→Zt,zero_le→Zw
open Go.Proofs.Tryz renaming prog→Zx
open Value renaming bool→Zy,int→Zz
open Go.RowKit
structure Va (w:World) (m1 m2 m3:Nat):Prop where
 x:WQ w m1 (Sx 26)
 s:WQ w m2 (Nt 3)
 t:WQ w m3 (Nu 7)
theorem Va.plus{w:World}{m1 m2 m3:Nat}(h:Va w m1 m2 m3)(y:ZH):Va (plus w y) m1 m2 m3:=⟨h.x.plus y,h.s.plus y,h.t.plus y⟩
abbrev UJ(m1 m2 m3:Nat):Value:=.agg #[.map (some m1),.map (some m2),.map (some m3)]
def Vi(s:Se):Bool:=Q2 s.kind&&(SO (sV s.kind) s.v&&SO (sM s.kind) s.m)
def Nr(n:Int)(c:Ca):Int:=if c.dflt then 0 else n
def Vm(n:Int)(c:Ca):Bool:=Mn c.tX9&&Xe (Nr n c) (Nr n c) Vi c.sets.l
def Py(s:Sa):Bool:=if s.tX9.toList==[] then (Xe 1 4 (Ex.may 16) s.keys.l&&Xe 1 16 (Vm (s.keys.l.length:Int)) s.cases.l) else (Mn s.tX9&&(((s.keys.l.length:Int)==0)&&((s.cases.l.length:Int)==0)))
def VZ(s:Sa):Bool:=YK s.name&&(Xe 0 8 YK s.takes.l&&Py s)
def SL(k:Ke):Bool:=decide (1≤k.kind)&&(decide (k.kind≤3)&&Ex.may 16 k.e)
def Tn(t:Ta):Bool:=YK t.name&&(Xe 1 4 SL t.keys.l&&(Xe 1 16 YK t.actions.l&&(YK t.dflt.name&&Xe 0 8 UX t.dflt.args.l)))
def Vl:Ex:=.mk 0 ⟨0,0,0⟩ ⟨#[]⟩ ⟨#[]⟩ 0 0 none 0 []
def St.fits(s:St):Bool:=Uh s.head (Rr s.kind)&&(Uh s.name (Rs s.kind)&&(Rq s.kind||(((s.thn.length:Int)==0)&&((s.els.length:Int)==0))))
def St.one(s:St):Bool:=ST s.kind&&(s.fits&&(if TX s.kind then Ex.may 16 s.e else s.e.same Vl))
def St.mayB:Nat→List St→Bool
 | 0,l=>((l.length:Int)==0)
 | n+1,l=>Xe 0 32 (fun s=>s.one&&(St.mayB n s.thn&&St.mayB n s.els)) l
def Tr(a:Ac):Bool:=YK a.name&&(Xe 0 8 VO a.params.l&&St.mayB 8 a.body.l)
theorem Cg(w:World):Vl.In w:=by
 refine .mk _ asE ⟨asE,asE,asE⟩ asE asE (Zw _) (Zw _) (Zw _) (Zw _) (fun i x h=>by simp[Vl,Ex.args]at h) (fun x h=>by simp[Vl,Ex.args]at h)
theorem bK(s:Se)(m1 m2 m3:Nat)(w:World)(h:s.In w)(hm:Va w m1 m2 m3):Kp Zx w 215 #[UJ m1 m2 m3,.agg s.cells.toArray] (.bool (Vi s)) :=
 iJ m1 m2 m3 s.kind s.v.w s.v.h s.v.l s.m.w s.m.h s.m.l _ _ _ _ w (fun W z hW=>iy W m2 (hW▸hm.s.plus z) s.kind)
  (bM _ _ s.kind s.v.w s.v.h s.v.l s.m.w s.m.h s.m.l _ _ w (Fo s.v _ w h.v) (Fo s.m _ w h.m))
theorem nI(c:Ca)(n)(m1 m2 m3:Nat)(w:World)(h:c.In w)(hz:c.sz≤1048576)(hm:Va w m1 m2 m3):Kp Zx w 193 #[UJ m1 m2 m3,.agg c.cells.toArray,.int .i64 n] (.bool (Vm n c)):=by
 unfold Ca.sz at hz;have ht:=xA c.tX9 w asB;have hl:c.sets.l.length≤1048576:=Xk Se.sz (fun _=>Zt _) c.sets asB;have hE:=fun lo hi=>mW Se.cells bQ Vi 215 #[UJ m1 m2 m3] #[] _ w c.sets lo hi h.sets hl (enters_of func215 asC rfl) (fun x hx=>bK x m1 m2 m3 w (h.sets.kids x hx) hm);obtain⟨d,sets,tgt⟩:=c;cases d with
 | true=>exact nJ m1 m2 m3 sets.p sets.l.length sets.cap tgt n _ _ w ht (hE 0 0)
 | false=>exact nH m1 m2 m3 sets.p sets.l.length sets.cap tgt n _ _ w ht (hE n n)
theorem Ft(L:Sl ByteArray)(lo hi)(w:World)(h:L.In w 1 V1 V2)(hz:L.size Y1≤1048576):Kp Zx w 64 #[L.v,.int .i64 lo,.int .i64 hi,.func (.func 65) #[] #[]] (.bool (Xe lo hi YK L.l)) :=
 m5 YK 65 #[] #[] _ w L lo hi h (xj _ hz) (enters_of func65 asC rfl) (fun x hx=>Q0 x w (by have:=U3 hz hx;unfold Y1 at this;omega))
theorem H6(L:Sl Fd)(lo hi)(w:World)(h:L.In w 2 Fd.cells (Fd.In w))(hz:L.size Fd.sz≤1048576):Kp Zx w 55 #[L.v,.int .i64 lo,.int .i64 hi,.func (.func 56) #[] #[]] (.bool (Xe lo hi VO L.l)) :=
 mS Fd.cells J7 VO 56 #[] #[] _ w L lo hi h (Xk Fd.sz Fd.sz_pos _ hz) (enters_of func56 asC rfl) (fun x hx=>lL x w (U3 hz hx))
theorem kP(h:Hr)(w:World)(hi:h.In w)(hz:h.sz≤1048576):Kp Zx w 54 #[.agg h.cells.toArray] (.bool (Si h)):=by
 unfold Hr.sz at hz;exact iH h.name h.fields.p h.fields.l.length h.fields.cap _ _ w (Q0 h.name w asB) (H6 h.fields 1 16 w hi.fields asB)
theorem lH(L:Sl Ex)(lo hi)(m1 m2 m3:Nat)(w:World)(h:L.In w 9 Ex.cells (Ex.In w))(hz:L.size Ex.wt≤1048576)(hm:Va w m1 m2 m3):Kp Zx w 188 #[L.v,.int .i64 lo,.int .i64 hi,.func (.func 124) #[UJ m1 m2 m3] #[]] (.bool (Xe lo hi (Ex.may 16) L.l)) :=
 CT Ex.cells J6 (Ex.may 16) 124 #[UJ m1 m2 m3] #[] _ w L lo hi h (Xk Ex.wt Ex.wt_pos _ hz) (enters_of func124 asC rfl) (fun x hx=>Ku x m1 (some m2) (some m3) w (h.kids x hx) (U3 hz hx) hm.x)
theorem aar(s:Sa)(m1 m2 m3:Nat)(w:World)(h:s.In w)(hz:s.sz≤1048576)(hm:Va w m1 m2 m3):Kp Zx w 132 #[UJ m1 m2 m3,.agg s.cells.toArray] (.bool (Py s)):=by
 unfold Sa.sz at hz;unfold Py;cases ht:(s.tX9.toList==[]) with
 | false =>
  exact aat m1 m2 m3 s.name s.takes.p s.takes.l.length s.takes.cap s.tX9 s.keys.p s.keys.l.length s.keys.cap s.cases.p s.cases.l.length s.cases.cap _ w ht (xA s.tX9 w asB)
 | true =>
  have hc:s.cases.size Ca.sz≤1048576:=asB;refine aas m1 m2 m3 s.name s.takes.p s.takes.l.length s.takes.cap s.tX9 s.keys.p s.keys.l.length s.keys.cap s.cases.p s.cases.l.length s.cases.cap _ _ w ht (lH s.keys 1 4 m1 m2 m3 w h.keys asB hm) ?_;intro W z fb sb hW hf hs;have hC:Sl.In W 3 Ca.cells (Ca.In W) s.cases:=hW▸h.cases.plus (fun _ a=>a.plus z) z;have UR:Va W m1 m2 m3:=hW▸hm.plus z;exact mR Ca.cells bN (Vm (s.keys.l.length:Int)) 192 #[] #[.pointer (some ⟨fb,0,none⟩),.pointer (some ⟨sb,0,none⟩)] _ W s.cases 1 16 hC (Xk Ca.sz El _ hc) (enters_of func192 asC rfl)
   (fun x hx=>aaq m1 m2 m3 x.dflt x.sets.p x.sets.l.length x.sets.cap x.tX9 fb sb s.keys.p s.keys.l.length s.keys.cap _ W (hf 0 _ rfl) (hf 1 _ rfl) (hf 2 _ rfl) hs (nI x _ m1 m2 m3 W (hC.kids x hx) (U3 hc hx) UR))
theorem ae(s:Sa)(m1 m2 m3:Nat)(w:World)(h:s.In w)(hz:s.sz≤1048576)(hm:Va w m1 m2 m3):Kp Zx w 58 #[UJ m1 m2 m3,.agg s.cells.toArray] (.bool (VZ s)):=by
 have hT:=aar s m1 m2 m3 w h hz hm;unfold Sa.sz at hz;exact iK m1 m2 m3 s.name s.takes.p s.takes.l.length s.takes.cap s.tX9 s.keys.p s.keys.l.length s.keys.cap s.cases.p s.cases.l.length s.cases.cap _ _ _ w (Q0 s.name w asB) (Ft s.takes 0 8 w h.takes asB) hT
theorem jj(k:Ke)(m1 m2 m3:Nat)(w:World)(h:k.In w)(hz:k.sz≤1048576)(hm:Va w m1 m2 m3):Kp Zx w 134 #[UJ m1 m2 m3,.agg k.cells.toArray] (.bool (SL k)):=by
 unfold Ke.sz at hz;exact iI m1 m2 m3 k.e.op k.e.lit.w k.e.lit.h k.e.lit.l k.e.head k.e.name k.e.hi k.e.lo k.e.p k.e.args.length k.e.cap k.kind _ w (Ku k.e m1 (some m2) (some m3) w h.e asB hm.x)
theorem aO(t:Ta)(m1 m2 m3:Nat)(w:World)(h:t.In w)(hz:t.sz≤1048576)(hm:Va w m1 m2 m3):Kp Zx w 62 #[UJ m1 m2 m3,.agg t.cells.toArray] (.bool (Tn t)):=by
 unfold Ta.sz Cl.sz at hz;have hk:t.keys.size Ke.sz≤1048576:=asB;exact iM m1 m2 m3 t.name t.keys.p t.keys.l.length t.keys.cap t.actions.p t.actions.l.length t.actions.cap t.dflt.name t.dflt.args.p t.dflt.args.l.length t.dflt.args.cap _ _ _ _ _ w (Q0 t.name w asB)
  (mU Ke.cells bO SL 134 #[UJ m1 m2 m3] #[] _ w t.keys 1 4 h.keys (Xk Ke.sz En _ hk) (enters_of func134 asC rfl) (fun x hx=>jj x m1 m2 m3 w (h.keys.kids x hx) (U3 hk hx) hm))
  (Ft t.actions 1 16 w h.actions asB) (Q0 t.dflt.name w asB)
  (mV Lt.cells bP UX 136 #[] #[] _ w t.dflt.args 0 8 h.dflt.args (zQ _ asB) (enters_of func136 asC rfl) (fun x hx=>zO x w (h.dflt.args.kids x hx)))
theorem ak(s:St)(m1 m2 m3:Nat)(w:World)(h:s.In w)(hz:s.sz≤1048576)(hm:Va w m1 m2 m3):Kp Zx w 140 #[UJ m1 m2 m3,.agg s.cells.toArray] (.bool s.one):=by
 have e1:=St.sz_eq s;have hE:=h.inE;exact iL m1 m2 m3 s.kind s.head s.name s.e.op s.e.lit.w s.e.lit.h s.e.lit.l s.e.head s.e.name s.e.hi s.e.lo s.e.p s.e.args.length s.e.cap s.p s.thn.length s.cap s.q s.els.length s.cbp _ _ _ _ _ _ _ _ w (fun W z hW=>iz W m3 (hW▸hm.t.plus z) s.kind)
  (ar _ _ _ _ s.kind s.head s.name s.e.op s.e.lit.w s.e.lit.h s.e.lit.l s.e.head s.e.name s.e.hi s.e.lo s.e.p s.e.args.length s.e.cap s.p s.thn.length s.cap s.q s.els.length s.cbp _ _ w (JE s.head _ w asB) (JE s.name _ w asB))
  (ng s.e Vl w hE (Cg w) asB) (Ku s.e m1 (some m2) (some m3) w hE asB hm.x)
theorem HG:∀(n:Nat),n≤8→∀(L:Sl St) (w:World) (fb c m1 m2 m3:Nat),L.In w 14 St.cells (St.In w)→L.size St.sz≤1048576→Va w m1 m2 m3→(∀j v,(#[.map (some m1),.map (some m2),.map (some m3)]:Array Value)[j]?=some v→w.cell? ⟨fb,j,none⟩=some v)→w.cell? ⟨c,0,none⟩=some (KL fb c) →
  Kp Zx w 137 #[L.v,.int .i64 (n:Int),.pointer (some ⟨fb,0,none⟩),.pointer (some ⟨c,0,none⟩)] (.bool (St.mayB n L.l))
 | 0,_,L,w,fb,c,m1,m2,m3,ZF,hz,hm,hf,hc=>nA L.p L.l.length L.cap fb c w
 | n+1,hn,L,w,fb,c,m1,m2,m3,ZF,hz,hm,hf,hc=>by
  refine nB L.p L.l.length L.cap fb c ((n+1:Nat):Int) _ w (by first|(simp;done)|(simp;omega)) ?_;intro W z rc hW hr;have hL:L.In W 14 St.cells (St.In W):=hW▸ZF.plus (fun _ a=>a.plus z) z;have Yo:W.cell? ⟨c,0,none⟩=some (KL fb c):=hW▸ZS hc z;have Wi:∀j v,(#[.map (some m1),.map (some m2),.map (some m3)]:Array Value)[j]?=some v→W.cell? ⟨fb,j,none⟩=some v:=fun j v hj=>hW▸ZS (hf j v hj) z;have UR:Va W m1 m2 m3:=hW▸hm.plus z;exact mY St.cells Ee (fun s=>s.one&&(St.mayB n s.thn&&St.mayB n s.els)) 139 #[] #[.pointer (some ⟨fb,0,none⟩),.pointer (some ⟨c,0,none⟩),.pointer (some ⟨rc,0,none⟩)] (St.In W) W L 0 32 hL (Xk St.sz St.sz_pos _ hz) (enters_of func139 asC rfl)
   (fun s hs=>by
    have YB:=U3 hz hs;have e1:=St.sz_eq s;have hi:=hL.kids s hs;exact af m1 m2 m3 s.kind s.head s.name s.e.op s.e.lit.w s.e.lit.h s.e.lit.l s.e.head s.e.name s.e.hi s.e.lo s.e.p s.e.args.length s.e.cap s.p s.thn.length s.cap s.q s.els.length s.cbp fb c rc ((n+1:Nat):Int) (n:Int) _ _ _ W (Wi 0 _ rfl) (Wi 1 _ rfl) (Wi 2 _ rfl) Yo hr (by rw[Wv _ (by omega)];omega)
     (ak s m1 m2 m3 W hi YB UR) (HG n asB s.thnS W fb c m1 m2 m3 hi.inThn (show (s.thn.map St.sz).sum≤_ by omega) UR Wi Yo) (HG n asB s.elsS W fb c m1 m2 m3 hi.inEls (show (s.els.map St.sz).sum≤_ by omega) UR Wi Yo))
theorem zT(L:Sl St)(m1 m2 m3:Nat)(w:World)(h:L.In w 14 St.cells (St.In w))(hz:L.size St.sz≤1048576)(hm:Va w m1 m2 m3):Kp Zx w 63 #[UJ m1 m2 m3,L.v] (.bool (St.mayB 8 L.l)) :=
 nC m1 m2 m3 L.p L.l.length L.cap _ w (fun W z fb c hW hf hc=>HG 8 (Zt _) L W fb c m1 m2 m3 (hW▸h.plus (fun _ a=>a.plus z) z) hz (hW▸hm.plus z) hf hc)
theorem oH(a:Ac)(m1 m2 m3:Nat)(w:World)(h:a.In w)(hz:a.sz≤1048576)(hm:Va w m1 m2 m3):Kp Zx w 60 #[UJ m1 m2 m3,.agg a.cells.toArray] (.bool (Tr a)):=by
 unfold Ac.sz at hz;exact iG m1 m2 m3 a.name a.params.p a.params.l.length a.params.cap a.body.p a.body.l.length a.body.cap _ _ _ w (Q0 a.name w asB) (H6 a.params 0 8 w h.params asB) (zT a.body m1 m2 m3 w h.body asB hm)
theorem WQ.set{w:World}{r:Nat}{es:Array MapEntry}(h:WQ w r es)(b o:Nat)(v:Value)(hr:r≠b):WQ (w.setCell ⟨b,o,none⟩ v) r es:=by
 obtain⟨n,h⟩:=h;exact⟨n,by rw[Below.heap_setCell w ⟨b,o,none⟩ v r hr];exact h⟩
theorem Fq{W w1 w':World}{es:Array MapEntry}{n:Nat}(h:∃y,w1=plus W y)(hw:w'=w1.alloc (.map es n)):∃x,w'=plus W x∧WQ w' w1.heap.size es∧W.heap.size≤w1.heap.size∧∀r es',WQ w1 r es'→WQ w' r es':=by
 obtain⟨y,rfl⟩:=h;subst hw;obtain⟨x,hx⟩:=Qy W y (.map es n);exact⟨_,hx,⟨n,by show ((plus W y).heap.push _)[(plus W y).heap.size]?=_;simp⟩,XZ W y,fun r es' h=>h.alloc _⟩
theorem nd(V:World):Calls Zx 52 #[] V fun e w'=>∃m1 m2 m3,e=.returned (UJ m1 m2 m3)∧(∃x,w'=plus V x)∧Va w' m1 m2 m3:=by
 go_enter func52,ntmps52;go_wp2_with fail;obtain⟨W,hW,hB,hs,ca,fa⟩:=WS V _ 117;rw[←hW];have ca0:=ca 0 _ rfl;have ca1:=ca 1 _ rfl;have ca2:=ca 2 _ rfl;have XI:=Zf hB;have Wr:=Zf hs;clear hW hB ca hs;refine (Bd _).mono ?_;rintro r w' ⟨rfl,hw⟩;obtain⟨x,rfl,hm1,hl1,_⟩:=Fq (W:=W) ⟨⟨#[],W.drawn⟩,(Yk W).symm⟩ hw;clear hw;have hm1:=Zf hm1;have hl1:=Zf hl1;go_wp2_with (first|(go_at_call 129;refine (lY _).mono ?_;rintro r w' ⟨rfl,hw⟩;obtain⟨x2,rfl,US,XK,Yp⟩:=Fq (W:=W) ⟨x,rfl⟩ hw;have US:=Zf US;have XK:=Zf XK;have Yp:=Zf Yp;clear hw)|(go_at_call 130;refine (lZ _).mono ?_;rintro r w' ⟨rfl,hw⟩;obtain⟨x3,rfl,hm3,Ve,Xi⟩:=Fq (W:=W) ⟨x2,rfl⟩ hw;have hm3:=Zf hm3;have Ve:=Zf Ve;have Xi:=Zf Xi;clear hw));refine bodyPost_ret (v:=UJ W.heap.size (plus W x).heap.size (plus W x2).heap.size) (by simp[results,Tryz.results52,go_sem,ca0,ca1,ca2]) rfl ⟨_,_,_,rfl,?_,?_⟩
 ·exact Yy ((((XI.out.trans ((Xl W x3).mono XI.out.size)).setCell (Zt _) _).setCell (Zt _) _).setCell (Zt _) _)
 ·have s0:=Wr.out
  have s2:=XK.out;have s3:=Ve.out;exact⟨(((Xi.out _ _ (Yp.out _ _ hm1.out)).set _ _ _ asB).set _ _ _ asB).set _ _ _ asB,(((Xi.out _ _ US.out).set _ _ _ asB).set _ _ _ asB).set _ _ _ asB,((hm3.out.set _ _ _ asB).set _ _ _ asB).set _ _ _ asB⟩
theorem iD(a0p a0n a0c a1p a1n a1c a2p a2n a2c a3p a3n a3c a4p a4n a4c a5p a5n a5c a6p a6n a6c s0 s1 s2 s3 s4 s5 s6 w)(h0:Kp Zx w 53 #[.slice a0p a0n a0c,.int .i64 0,.int .i64 8,.func (.func 54) #[] #[]] (.bool s0))(h1:Kp Zx w 55 #[.slice a1p a1n a1c,.int .i64 0,.int .i64 16,.func (.func 56) #[] #[]] (.bool s1))(h2:∀W z m1 m2 m3,W=plus w z→Va W m1 m2 m3→Kp Zx W 57 #[.slice a2p a2n a2c,.int .i64 1,.int .i64 16,.func (.func 58) #[.agg #[.map (some m1),.map (some m2),.map (some m3)]] #[]] (.bool s2))(h3:∀W z m1 m2 m3,W=plus w z→Va W m1 m2 m3→Kp Zx W 59 #[.slice a3p a3n a3c,.int .i64 0,.int .i64 16,.func (.func 60) #[.agg #[.map (some m1),.map (some m2),.map (some m3)]] #[]] (.bool s3))(h4:∀W z m1 m2 m3,W=plus w z→Va W m1 m2 m3→Kp Zx W 61 #[.slice a4p a4n a4c,.int .i64 0,.int .i64 8,.func (.func 62) #[.agg #[.map (some m1),.map (some m2),.map (some m3)]] #[]] (.bool s4))(h5:∀W z m1 m2 m3,W=plus w z→Va W m1 m2 m3→Kp Zx W 63 #[.agg #[.map (some m1),.map (some m2),.map (some m3)],.slice a5p a5n a5c] (.bool s5))(h6:Kp Zx w 64 #[.slice a6p a6n a6c,.int .i64 0,.int .i64 8,.func (.func 65) #[] #[]] (.bool s6)) :
  Kp Zx w 29 #[.agg #[.slice a0p a0n a0c,.slice a1p a1n a1c,.slice a2p a2n a2c,.slice a3p a3n a3c,.slice a4p a4n a4c,.slice a5p a5n a5c,.slice a6p a6n a6c]] (.bool (((s0)&&((s1)&&((s2)&&((s3)&&((s4)&&((s5)&&(s6))))))))):=by
 intro y0;have h0:=h0.up y0;have h1:=h1.up y0;have h2:∀W z m1 m2 m3,W=plus ((plus w y0)) z→Va W m1 m2 m3→Kp Zx W 57 #[.slice a2p a2n a2c,.int .i64 1,.int .i64 16,.func (.func 58) #[.agg #[.map (some m1),.map (some m2),.map (some m3)]] #[]] (.bool s2):=fun W z m1 m2 m3 hW=>h2 W _ m1 m2 m3 (hW.trans (ZD _ _ _));have h3:∀W z m1 m2 m3,W=plus ((plus w y0)) z→Va W m1 m2 m3→Kp Zx W 59 #[.slice a3p a3n a3c,.int .i64 0,.int .i64 16,.func (.func 60) #[.agg #[.map (some m1),.map (some m2),.map (some m3)]] #[]] (.bool s3):=fun W z m1 m2 m3 hW=>h3 W _ m1 m2 m3 (hW.trans (ZD _ _ _));have h4:∀W z m1 m2 m3,W=plus ((plus w y0)) z→Va W m1 m2 m3→Kp Zx W 61 #[.slice a4p a4n a4c,.int .i64 0,.int .i64 8,.func (.func 62) #[.agg #[.map (some m1),.map (some m2),.map (some m3)]] #[]] (.bool s4):=fun W z m1 m2 m3 hW=>h4 W _ m1 m2 m3 (hW.trans (ZD _ _ _));have h5:∀W z m1 m2 m3,W=plus ((plus w y0)) z→Va W m1 m2 m3→Kp Zx W 63 #[.agg #[.map (some m1),.map (some m2),.map (some m3)],.slice a5p a5n a5c] (.bool s5):=fun W z m1 m2 m3 hW=>h5 W _ m1 m2 m3 (hW.trans (ZD _ _ _));have h6:=h6.up y0;obtain⟨V,hV⟩:=ZB (plus w y0);rw[hV]at h0 h1 h2 h3 h4 h5 h6 ⊢;clear hV;open Z renaming arj→TU in exact T2
def Vr(p:Pr):Bool:=Xe 0 8 Si p.headers.l&&(Xe 0 16 VO p.metas.l&&(Xe 1 16 VZ p.states.l&&(Xe 0 16 Tr p.actions.l&&(Xe 0 8 Tn p.tables.l&&(St.mayB 8 p.control.l&&Xe 0 8 YK p.emit.l)))))
theorem ne(p:Pr)(w:World)(h:p.In w)(hz:p.sz≤1048576):Kp Zx w 29 #[.agg p.cells.toArray] (.bool (Vr p)):=by
 unfold Pr.sz at hz;have WH:p.headers.size Hr.sz≤1048576:=asB;have Xt:p.states.size Sa.sz≤1048576:=asB;have T0:p.actions.size Ac.sz≤1048576:=asB;have Ul:p.tables.size Ta.sz≤1048576:=asB;refine iD p.headers.p p.headers.l.length p.headers.cap p.metas.p p.metas.l.length p.metas.cap p.states.p p.states.l.length p.states.cap p.actions.p p.actions.l.length p.actions.cap p.tables.p p.tables.l.length p.tables.cap p.control.p p.control.l.length p.control.cap p.emit.p p.emit.l.length p.emit.cap _ _ _ _ _ _ _ w
  (mT Hr.cells J8 Si 54 #[] #[] _ w p.headers 0 8 h.headers (Xk Hr.sz Em _ WH) (enters_of func54 asC rfl) (fun x hx=>kP x w (h.headers.kids x hx) (U3 WH hx)))
  (H6 p.metas 0 16 w h.metas asB) ?_ ?_ ?_ ?_ (Ft p.emit 0 8 w h.emit asB)
 ·intro W z m1 m2 m3 hW hm
  have hC:Sl.In W 5 Sa.cells (Sa.In W) p.states:=hW▸h.states.plus (fun _ a=>a.plus z) z;exact mX Sa.cells J9 VZ 58 #[UJ m1 m2 m3] #[] _ W p.states 1 16 hC (Xk Sa.sz Eo _ Xt) (enters_of func58 asC rfl) (fun x hx=>ae x m1 m2 m3 W (hC.kids x hx) (U3 Xt hx) hm)
 ·intro W z m1 m2 m3 hW hm
  have hC:Sl.In W 3 Ac.cells (Ac.In W) p.actions:=hW▸h.actions.plus (fun _ a=>a.plus z) z;exact mQ Ac.cells J5 Tr 60 #[UJ m1 m2 m3] #[] _ W p.actions 0 16 hC (Xk Ac.sz Ek _ T0) (enters_of func60 asC rfl) (fun x hx=>oH x m1 m2 m3 W (hC.kids x hx) (U3 T0 hx) hm)
 ·intro W z m1 m2 m3 hW hm
  have hC:Sl.In W 5 Ta.cells (Ta.In W) p.tables:=hW▸h.tables.plus (fun _ a=>a.plus z) z;exact mZ Ta.cells Ia Tn 62 #[UJ m1 m2 m3] #[] _ W p.tables 0 8 hC (Xk Ta.sz Ep _ Ul) (enters_of func62 asC rfl) (fun x hx=>aO x m1 m2 m3 W (hC.kids x hx) (U3 Ul hx) hm)
 ·intro W z m1 m2 m3 hW hm
  have hC:p.control.In W 14 St.cells (St.In W):=hW▸h.control.plus (fun _ a=>a.plus z) z;exact zT p.control m1 m2 m3 W hC asB hm
end Go.Proofs.YtknmeggfokpbjaaGreat
