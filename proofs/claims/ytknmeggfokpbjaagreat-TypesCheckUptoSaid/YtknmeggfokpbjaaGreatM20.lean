/-
  WHAT IS PROVED HERE: a part of the proof (made narrower and merged by program; the parts: Ds).
-/
import Derived.Test.YtknmeggfokpbjaaGreatM19
set_option maxRecDepth 100000
set_option maxHeartbeats 8000000
set_option linter.all false
namespace Go.Proofs.YtknmeggfokpbjaaGreat
open Z
open Go.RowKit Go.Proofs.Tryz
open Below renaming refl→Zb
open Lib renaming hid→Zf
open List renaming getElem?_eq_some_iff→Zi,mem_append→Zn,mem_of_getElem?→Zo
open Nat renaming le_refl→Zt,lt_of_lt_of_le→Zu,zero_add→Zv,zero_le→Zw
open Go.Proofs.Tryz renaming prog→Zx
open Value renaming int→Zz
open World renaming cell?_setCell_other→ZA
open Go.RowKit
theorem OL{base:Nat}{e:TypeId}{C n:Nat}{v:Value}{xs:List Value}{W:World}(h:W.ownsRow base e C v n xs)(y:ZH):(plus W y).ownsRow base e C v n xs:=by
 obtain⟨h1,h2⟩:=h;refine⟨h1,?_⟩;rcases h2 with h2|⟨g,cap,cur,hv,hg,hh,rest⟩
 ·exact .inl h2
 ·exact .inr ⟨g,cap,cur,hv,hg,((Xl W y).block g (Array.getElem?_eq_some_iff.1 hh).1).trans hh,rest⟩
theorem LC{base:Nat}{e:TypeId}{C n:Nat}{v:Value}{xs:List Value}{W:World}(h:W.ownsRow base e C v n xs)(o:Obj):(W.alloc o).ownsRow base e C v n xs:=by
 obtain⟨y,hy⟩:=Yy ((Zb W.heap.size W).alloc (Zt _) o);rw[hy];exact OL h y
theorem yx{base:Nat}{e:TypeId}{C n g cap:Nat}{xs:List Value}{W:World}(h:W.ownsRow base e C (.slice (some ⟨g,0,none⟩) n cap) n xs):g<W.heap.size∧∃cur,W.heap[g]?=some (.cells cur e (0,0))∧cur.size=cap*C:=by
 rcases h.2 with⟨h2,_⟩|⟨g2,cap2,cur,hv,hg,hh,_,_,hs,_⟩
 ·cases h2
 ·simp only[Value.slice.injEq,Option.some.injEq,Addr.mk.injEq,and_true,true_and]at hv
  obtain⟨rfl,rfl⟩:=hv;exact⟨(Array.getElem?_eq_some_iff.1 hh).1,cur,hh,hs⟩
theorem VL{base:Nat}{e:TypeId}{C n g cap:Nat}{xs:List Value}{W:World}(h:W.ownsRow base e C (.slice (some ⟨g,0,none⟩) n cap) n xs)(k j:Nat)(hk:k<n)(hj:j<C):∃v,W.cell? ⟨g,k*C+j,none⟩=some v:=by
 have ZC:k*C+j<n*C:=Zu (show k*C+j<(k+1)*C by rw[Nat.succ_mul];omega) (Nat.mul_le_mul_right C hk);rw[h.cellAt _ ZC];exact⟨_,List.getElem?_eq_getElem (by rw[h.1];exact ZC)⟩
def MO(e:Ex):Prop:=∀w,e.In w→e.wt≤1048576→Calls Zx 97 #[e.val] w fun E w'=>∃e':Ex,E=.returned e'.val∧(∃x,w'=plus w x)∧e'.In w'∧WP w.heap.size w' e'∧e'.bare=e.bare
structure oC (n:Nat) (W:World) (q:Option Addr) (d:Nat) (l l':List Ex):Prop where
 row:Xa W 9 Ex.cells q l'
 own:0<l'.length→∃a cur fz,q=some a∧n≤a.block∧W.heap[a.block]?=some (.cells cur 45 fz)
 kids:∀x∈l',x.In W∧WP n W x
 like:l'.map Ex.bare=l.map Ex.bare
 len:l'.length≤d
 cap:d≤maxLen
theorem lG:(Zx.info? 45).map (fun i=>(i.zero,i.size,i.bytes))=some (some (.agg #[.int .u8 0,.int .i64 0,.int .u64 0,.int .u64 0,.string ⟨#[]⟩,.string ⟨#[]⟩,.int .i64 0,.int .i64 0,.slice none 0 0]),9,104):=asC
theorem iA(n:Nat)(hn:n≤1048576)(w:World):∃cs:Array Value,cs.size=n*9∧(Instr.makeSlice 43 (.int .i64 (n:Int)) (.int .i64 (n:Int))).run Zx w=.ok (.slice (some ⟨w.heap.size,0,none⟩) n n) (w.alloc (.cells cs 45)):=by
 obtain⟨i0,hi0,Ux,WK,Vd⟩:=info_parts lG;have h:=run_make (P:=Zx) w 43 45 i0 _ Tryz.underlying43 hi0 Ux .i64 .i64 (n:Int) (n:Int) asB asB (by rw[Vd];omega) asB;exact vI
theorem my(l:List Ex)(ih:∀x∈l,MO x)(p:Option Addr)(c:Nat)(w:World)(Yj:Xa w 9 Ex.cells p l)(Xj:∀x∈l,x.In w)(hz:(l.map Ex.wt).sum≤1048576) :
  Calls Zx 163 #[.slice p l.length c,.func (.func 97) #[] #[]] w fun E w'=>∃(q:Option Addr) (d:Nat) (l':List Ex),E=.returned (.slice q l'.length d)∧(∃x,w'=plus w x)∧oC w.heap.size w' q d l l':=by
 have hl:l.length≤1048576:=by have:=XM Ex.wt (fun e=>by have:=Ex.wt_eq e;omega) l;omega
 have RH:=Zf (fun x hx=>Nat.le_trans (YW Ex.wt l x hx) hz);have Wf:=Zf Yj;have Sf:=Zf Xj;have ih':=Zf ih;obtain⟨n,hn⟩:=ZB l.length;rw[hn]at hl ⊢;have ZO:=Zf hn;have Yt:=Zf hl;clear Yj Xj ih hn hl hz;cases p with
 | none =>
  have h0:l=[]:=by
   cases l with
   | nil=>rfl
   | cons x l=>obtain⟨a,h,_⟩:=Wf.out 0 x rfl;cases h
  subst h0;have he:∀w:World,(binOp .eql 43 (.slice none n c) (.slice none 0 0)).run Zx w=.ok (.bool true) w:=fun _=>rfl;obtain rfl:n=0:=ZO.out.symm;go_enter func163,ntmps163;go_wp2;go_ret;exact⟨none,0,[],rfl,⟨_,(Yk _).symm⟩,⟨fun i x h=>(by simp at h),fun h=>absurd h (Nat.lt_irrefl _),fun x h=>asT,rfl,Zt _,Zw _⟩⟩
 | some pa =>
  have he:∀w:World,(binOp .eql 43 (.slice (some pa) n c) (.slice none 0 0)).run Zx w=.ok (.bool false) w:=fun _=>rfl;obtain⟨cs,VK,hmk⟩:=iA n Yt.out w;go_enter func163,ntmps163;go_wp2;have hO:(w.alloc (.cells cs 45)).ownsRow w.heap.size 45 9 (.slice (some ⟨w.heap.size,0,none⟩) n n) n cs.toList:=World.ownsRow_lit w cs n (Zt _) auh VK;obtain⟨g,hg⟩:=ZB w.heap.size;have hV:∃z,w.alloc (.cells cs 45)=plus w z:=Yy ((Zb w.heap.size w).alloc (Zt _) _);rw[hg]at hO ⊢;generalize w.alloc (.cells cs 45)=V at hO hV ⊢;clear hmk he;go_loopw [6,7,15] (fun _ _ iv wr=>∃(k:Nat) (l':List Ex) (post:List Value),k≤n∧iv=.int .i64 (k:Int)∧l'.length=k∧wr.ownsRow g 45 9 (.slice (some ⟨g,0,none⟩) n n) n ((l'.map Ex.cells).flatten++post)∧(∀x∈l',x.In wr∧WP (g+1) wr x)∧l'.map Ex.bare=(l.take k).map Ex.bare∧∃z,wr=plus w z) (fun _ _ iv _=>n-(intOf iv).toNat)
  case atStart=>exact⟨0,[],cs.toList,Zw _,rfl,rfl,hO,fun x h=>by (cases h),asD,hV⟩
  case round =>
   obtain⟨k,l',post,hk,rfl,hlk,hO,Xw,SE,z,hz⟩:=hrel;by_cases ZC:k<n
   ·obtain⟨x,hx⟩:=Yq l k asG
    have ZV:=Zo hx;obtain⟨pa2,Yw,hc⟩:=Wf.out k x hx;obtain rfl:=Option.some.inj Yw;have Yx:Yg wr (pa.add (k*9)) x.cells:=by rw[hz];exact hc.plus z
    have d0:=Yx.c0 _ rfl;have d1:=Yx.cs 0 _ rfl;have d2:=Yx.cs 1 _ rfl;have d3:=Yx.cs 2 _ rfl;have d4:=Yx.cs 3 _ rfl;have d5:=Yx.cs 4 _ rfl;have d6:=Yx.cs 5 _ rfl;have d7:=Yx.cs 6 _ rfl;have d8:=Yx.cs 7 _ rfl;have q:=Zf (fun (o:Obj)=>ih'.out x ZV (wr.alloc o) auu (RH.out x ZV));simp only[Ex.val,Ex.cells]at q;have a6:=Zf (Y7 k n ZC Yt.out);have hO':=Zf hO;have TP:=Zf Xw;have Gj:=Zf SE;have ZN:=Zf hz;have VY:=Zf hx;have hlk':=Zf hlk;clear Yx hc hO Xw SE hz hx hlk Yw ZV;go_wp2_with (fail);refine (q.out _).mono ?_;rintro E w' ⟨e2,rfl,⟨x1,rfl⟩,Qo,ho2,hb2⟩;obtain⟨W1,Y8⟩:=ZB (plus (wr.alloc (.cells #[.int .u8 x.op,.int .i64 x.lit.w,.int .u64 x.lit.h,.int .u64 x.lit.l,.string x.head,.string x.name,.int .i64 x.hi,.int .i64 x.lo,.slice x.p x.args.length x.cap] 45)) x1);have XE:=OL (LC hO'.out (.cells #[.int .u8 x.op,.int .i64 x.lit.w,.int .u64 x.lit.h,.int .u64 x.lit.l,.string x.head,.string x.name,.int .i64 x.hi,.int .i64 x.lo,.slice x.p x.args.length x.cap] 45)) x1;have TC:=Yy (((Zb wr.heap.size wr).alloc (Zt _) (.cells #[.int .u8 x.op,.int .i64 x.lit.w,.int .u64 x.lit.h,.int .u64 x.lit.l,.string x.head,.string x.name,.int .i64 x.hi,.int .i64 x.lo,.slice x.p x.args.length x.cap] 45)).trans ((Xl _ x1).mono asD));have YB:=yx hO'.out;have ho3:=WP.mono (m:=g+1) asM ho2;rw[Y8]at Qo ho3 XE TC ⊢;clear Y8 ho2 YB q d0 d1 d2 d3 d4 d5 d6 d7 d8;obtain⟨u0,c0⟩:=VL XE k 0 ZC asE;rw[Nat.add_zero]at c0;obtain⟨u1,c1⟩:=VL XE k 1 ZC asE;obtain⟨u2,c2⟩:=VL XE k 2 ZC asE;obtain⟨u3,c3⟩:=VL XE k 3 ZC asE;obtain⟨u4,c4⟩:=VL XE k 4 ZC asE;obtain⟨u5,c5⟩:=VL XE k 5 ZC asE;obtain⟨u6',c6⟩:=VL XE k 6 ZC asE;obtain⟨u7',c7⟩:=VL XE k 7 ZC asE;obtain⟨u8',c8⟩:=VL XE k 8 ZC asE;have hf:=fun o=>XE.frozenAt o;have hO1':=Zf XE;have hin2':=Zf Qo;have ho3':=Zf ho3;have hup':=Zf TC;clear XE Qo ho3 TC;obtain⟨op2,⟨lw2,lh2,ll2⟩,XU,WW,WK,lo2,p2,c2',args2⟩:=e2;simp only[Ex.val,Ex.cells,Ex.op,Ex.lit,Ex.head,Ex.name,Ex.hi,Ex.lo,Ex.p,Ex.args,Ex.cap];go_wp2;obtain⟨post2,hO2,-⟩:=au (f:=Ex.cells) (C:=9) (fun _=>rfl) (Ex.mk op2 ⟨lw2,lh2,ll2⟩ XU WW WK lo2 p2 c2' args2) (by rw[hlk'.out];exact ZC) hO1'.out;rw[hlk'.out]at hO2;have Oj:∀y:Ex,y.In W1→WP (g+1) W1 y→y.In (Vt g W1 (k*9) (Ex.cells (Ex.mk op2 ⟨lw2,lh2,ll2⟩ XU WW WK lo2 p2 c2' args2)))∧WP (g+1) (Vt g W1 (k*9) (Ex.cells (Ex.mk op2 ⟨lw2,lh2,ll2⟩ XU WW WK lo2 p2 c2' args2))) y :=
     fun y h1 h2=>M2 (fun b cur fz hb hh=>(Ny _ W1 _ b asB).trans hh) y h1 h2
    have UT:∃z,Vt g W1 (k*9) (Ex.cells (Ex.mk op2 ⟨lw2,lh2,ll2⟩ XU WW WK lo2 p2 c2' args2))=plus w z:=by
     obtain⟨YH,h1⟩:=hup'.out;refine Yy (Below.trans ?_ (Oc (show w.heap.size≤g by omega) _ W1 _));rw[h1,ZN.out,ZD];exact Xl w _
    refine⟨⟨k+1,l'++[Ex.mk op2 ⟨lw2,lh2,ll2⟩ XU WW WK lo2 p2 c2' args2],post2,ZC,congrArg (Zz .i64) a6.out,by simp[hlk'.out],hO2,fun y hy=>?_,?_,UT⟩,Y9 k n ZC a6.out⟩
    ·rcases Zn.1 hy with hy|hy
     ·obtain⟨YH,h1⟩:=hup'.out
      obtain⟨q1,q2⟩:=TP.out y hy;exact Oj y (by rw[h1];exact q1.plus YH) (by rw[h1];exact WP.plus q1 q2 YH)
     ·obtain rfl:=List.mem_singleton.1 hy
      exact Oj _ hin2'.out ho3'.out
    ·rw[List.take_add_one,VY.out]
     simp[Gj.out,hb2]
   ·obtain rfl:k=n:=by omega
    have ZN:=Zf hz;clear hz;go_wp2;go_ret;refine⟨some ⟨g,0,none⟩,k,l',by rw[hlk];rfl,⟨z,ZN.out⟩,cF (C:=9) (f:=Ex.cells) (fun _=>rfl) hO,fun _=>?_,(fun x hx=>And.intro (Xw x hx).1 (WP.mono asB (Xw x hx).2)),by rw[SE,List.take_of_length_le (by rw[ZO.out];exact Zt _)],asB,auh⟩;obtain⟨_,cur,h1,_⟩:=yx hO;exact⟨_,cur,_,rfl,(by show w.heap.size≤g;omega),h1⟩
theorem mx(e:Ex)(ih:∀x∈e.args,MO x):MO e:=by
 intro w ZF hz;have Pd:(e.args.map Ex.wt).sum≤1048576:=by have:=Ex.wt_eq e;omega
 obtain⟨_,wop,wlit,whi,wlo,whd,wnm,_,_,Yj,Xj⟩:=ZF;have kl:=Zf (fun W (hW:∃z,W=plus w z)=>my e.args ih e.p e.cap W (by obtain⟨z,rfl⟩:=hW;exact Yj.plus z) (by obtain⟨z,rfl⟩:=hW;exact fun x hx=>(Xj x hx).plus z) Pd);clear ih Yj Xj hz Pd;have hbare:∀(q:Option Addr) (d:Nat) (l':List Ex),l'.map Ex.bare=e.args.map Ex.bare→(Ex.mk e.op e.lit e.head e.name e.hi e.lo q d l').bare=e.bare:=fun q d l' h=>by
  rw[Ex.bare_eq,Ex.bare_eq e];simp only[Ex.op,Ex.lit,Ex.head,Ex.name,Ex.hi,Ex.lo,Ex.args];rw[h];rfl
 have Yi:=Zf hbare;clear hbare;obtain⟨op,⟨lw,lh,ll⟩,hd,nm,eh,el,ep,ec,eargs⟩:=e;simp only[Ex.op,Ex.lit,Ex.head,Ex.name,Ex.hi,Ex.lo,Ex.p,Ex.args,Ex.cap]at wop wlit whi wlo whd wnm kl Yi;simp only[Ex.val,Ex.cells,Ex.op,Ex.lit,Ex.head,Ex.name,Ex.hi,Ex.lo,Ex.p,Ex.args,Ex.cap];obtain⟨M,hM⟩:=ZB eargs.length;rw[hM]at kl ⊢;clear hM;have hwf:=Zf (And.intro wop (And.intro wlit (And.intro whi (And.intro wlo (And.intro whd wnm)))));clear wop wlit whi wlo whd wnm;go_enter func97,ntmps97;go_upto_region 1 with (fail)
 obtain⟨X,hX,hXB,Re,ca,cb,fa,fb⟩:=QM w #[.int .u8 op,.int .i64 lw,.int .u64 lh,.int .u64 ll,.string hd,.string nm,.int .i64 eh,.int .i64 el,.slice ep M ec] #[.int .u8 0,.int .i64 0,.int .u64 0,.int .u64 0,.string ⟨#[]⟩,.string ⟨#[]⟩,.int .i64 0,.int .i64 0,.slice none 0 0] 45 45;rw[←hX];have ZE:=Yy hXB;have qk:=Zf (kl.out X ZE);have g8:=ca 8 _ rfl ⟨#[],X.drawn⟩;rw[Yk]at g8;clear kl hX;go_wp2_with fail;refine qk.out.mono ?_;rintro E w' ⟨q,d,l',rfl,⟨x1,rfl⟩,hL⟩;clear qk g8;have a0:=ca 0 _ rfl x1;have a1:=ca 1 _ rfl x1;have a2:=ca 2 _ rfl x1;have a3:=ca 3 _ rfl x1;have a4:=ca 4 _ rfl x1;have a5:=ca 5 _ rfl x1;have a6:=ca 6 _ rfl x1;have a7:=ca 7 _ rfl x1;have a8:=ca 8 _ rfl x1;have b0:=cb 0 _ rfl x1;have b1:=cb 1 _ rfl x1;have b2:=cb 2 _ rfl x1;have b3:=cb 3 _ rfl x1;have b4:=cb 4 _ rfl x1;have b5:=cb 5 _ rfl x1;have b6:=cb 6 _ rfl x1;have b7:=cb 7 _ rfl x1;have b8:=cb 8 _ rfl x1;have fa1:=fa x1;have fb1:=fb x1;have YB:=XZ X x1;obtain⟨W1,Y8⟩:=ZB (plus X x1);have TC:=Zf (show ∃z,W1=plus w z by obtain⟨z,h⟩:=ZE;rw[←Y8,h,ZD];exact⟨_,rfl⟩);rw[Y8]at a0 a1 a2 a3 a4 a5 a6 a7 a8 b0 b1 b2 b3 b4 b5 b6 b7 b8 fa1 fb1 hL YB ⊢;have hL':=Zf hL;have hXs':=Zf Re;have hsz':=Zf YB;clear Y8 ca cb fa fb hL hXB ZE Re YB;go_wp2;have UP:=fun j v hj=>KJ (g:=w.heap.size+1) [.int .u8 op,.int .i64 lw,.int .u64 lh,.int .u64 ll,.string hd,.string nm,.int .i64 eh,.int .i64 el,.slice q l'.length d] (W1.setCell ⟨w.heap.size,8,none⟩ (.slice q l'.length d)) 0 j v hj
  (fun i hi=>by
   match i,hi with
   | 0,_=>exact⟨_,(ZA _ _ _ _ as2).trans b0⟩
   | 1,_=>exact⟨_,(ZA _ _ _ _ as2).trans b1⟩
   | 2,_=>exact⟨_,(ZA _ _ _ _ as2).trans b2⟩
   | 3,_=>exact⟨_,(ZA _ _ _ _ as2).trans b3⟩
   | 4,_=>exact⟨_,(ZA _ _ _ _ as2).trans b4⟩
   | 5,_=>exact⟨_,(ZA _ _ _ _ as2).trans b5⟩
   | 6,_=>exact⟨_,(ZA _ _ _ _ as2).trans b6⟩
   | 7,_=>exact⟨_,(ZA _ _ _ _ as2).trans b7⟩
   | 8,_=>exact⟨_,(ZA _ _ _ _ as2).trans b8⟩
   | n+9,hi=>exact absurd hi asD)
 obtain⟨U,hU⟩:=ZB ((((((((((W1.setCell ⟨w.heap.size,8,none⟩ (.slice q l'.length d)).setCell ⟨w.heap.size+1,0,none⟩ (.int .u8 op)).setCell ⟨w.heap.size+1,1,none⟩ (.int .i64 lw)).setCell ⟨w.heap.size+1,2,none⟩ (.int .u64 lh)).setCell ⟨w.heap.size+1,3,none⟩ (.int .u64 ll)).setCell ⟨w.heap.size+1,4,none⟩ (.string hd)).setCell ⟨w.heap.size+1,5,none⟩ (.string nm)).setCell ⟨w.heap.size+1,6,none⟩ (.int .i64 eh)).setCell ⟨w.heap.size+1,7,none⟩ (.int .i64 el)).setCell ⟨w.heap.size+1,8,none⟩ (.slice q l'.length d));have hV:Vt (w.heap.size+1) (W1.setCell ⟨w.heap.size,8,none⟩ (.slice q l'.length d)) 0 [.int .u8 op,.int .i64 lw,.int .u64 lh,.int .u64 ll,.string hd,.string nm,.int .i64 eh,.int .i64 el,.slice q l'.length d]=U:=hU;open Z renaming ae7→BV in exact vm
theorem mv:∀e:Ex,MO e:=fun e=>Ex.ind (Q:=MO) (fun e ih=>mx e ih) e
end Go.Proofs.YtknmeggfokpbjaaGreat
