/-
  WHAT IS PROVED HERE: a part of the proof (made narrower and merged by program; the parts: Lrg).
-/
import Derived.Test.YtheaknidbcbneaaGreatM34
import Derived.Test.YtheaknidbcbneaaGreatM39
import Derived.Test.YtheaknidbcbneaaGreatM27
set_option maxRecDepth 100000
set_option maxHeartbeats 8000000
set_option linter.all false
namespace Go.Proofs.YtheaknidbcbneaaGreat
open Go.RowKit Go.Proofs.Tryz
open List renaming mem_of_getElem?→Zl
open Go.Proofs.Tryz renaming prog→Zr
open Value renaming int→Zt
open Go.RowKit
theorem Rl(n:Nu)(k)(h:n.In)(w):Kp Zr w 34 #[.agg #[.int .u64 n.h,.int .u64 n.l],.int .i64 k] (.bool (decide (n.n % 2 ^ hw k=n.n))):=by
 rw[Nu.nv_eq h];exact fun y=>Hy n.n k (Nu.n_lt h) (plus w y)
theorem Hd(E:Xf)(F:Bool)(nw na nb vh vl:Int):(if na==0&&(nb==0&&((decide (0<nw)&&decide (nw<129))&&F)) then nw else 0)=X8 E F ⟨1,nw,na,nb,⟨vh,vl⟩⟩:=by
 unfold X8 Uq;by_cases h1:na=0 <;> by_cases h2:nb=0 <;> cases F <;> simp[h1,h2]
 congr 1
 apply propext;omega
theorem He(E:Xf)(F:Bool)(nw na nb vh vl x:Int)(hx:T4 E na nb=x):(if vh==0&&vl==0 then x else 0)=X8 E F ⟨2,nw,na,nb,⟨vh,vl⟩⟩:=by
 unfold X8 WP;by_cases h1:vh=0 <;> by_cases h2:vl=0 <;> simp[h1,h2,hx]
theorem Hf(E:Xf)(F:Bool)(nw na nb vh vl:Int):(if vh==0&&(vl==0&&nb==0) then Xb E.metas na else 0)=X8 E F ⟨3,nw,na,nb,⟨vh,vl⟩⟩:=by
 unfold X8 WP;by_cases h1:vh=0 <;> by_cases h2:vl=0 <;> by_cases h3:nb=0 <;> simp[h1,h2,h3]
theorem Hg(E:Xf)(F:Bool)(nw na nb vh vl x:Int)(hx:Xb E.params na=x):(if vh==0&&(vl==0&&nb==0) then x else 0)=X8 E F ⟨4,nw,na,nb,⟨vh,vl⟩⟩:=by
 unfold X8 WP;by_cases h1:vh=0 <;> by_cases h2:vl=0 <;> by_cases h3:nb=0 <;> simp[h1,h2,h3,hx]
theorem Hh(E:Xf)(F:Bool)(nw na nb vh vl:Int):(if vh==0&&(vl==0&&(nb==0&&na==0)) then 9 else 0)=X8 E F ⟨5,nw,na,nb,⟨vh,vl⟩⟩:=by
 unfold X8 WP;by_cases h1:vh=0 <;> by_cases h2:vl=0 <;> by_cases h3:nb=0 <;> simp[h1,h2,h3]
theorem Hi(E:Xf)(F:Bool)(nw na nb vh vl:Int):(if vh==0&&(vl==0&&(nb==0&&(decide (0≤na)&&decide (na<(E.heads.length:Int))))) then 1 else 0)=X8 E F ⟨6,nw,na,nb,⟨vh,vl⟩⟩:=by
 unfold X8 WP;by_cases h1:vh=0 <;> by_cases h2:vl=0 <;> by_cases h3:nb=0 <;> simp[h1,h2,h3]
theorem Ob(E:Xf)(F:Bool)(nw na nb vh vl:Int)(h:T4 E na nb=0):0=X8 E F ⟨2,nw,na,nb,⟨vh,vl⟩⟩:=by
 unfold X8;simp[h]
theorem Oc(E:Xf)(F:Bool)(nw na nb vh vl:Int)(h:Xb E.params na=0):0=X8 E F ⟨4,nw,na,nb,⟨vh,vl⟩⟩:=by
 unfold X8;simp[h]
theorem Gs(p:Pg)(act)(n:Nd)(w:World)(hp:p.In w)(hn:n.In)(ho:1≤n.op∧n.op≤6) :
  Kp Zr w 17 #[p.val,.int .i64 act,n.val] (.int .i64 (X8 (p.env act) n.fit n)):=by
 have hc:n.op=1∨n.op=2∨n.op=3∨n.op=4∨n.op=5∨n.op=6:=by omega
 have Xg:Kp Zr w 34 #[.agg #[.int .u64 n.v.h,.int .u64 n.v.l],.int .i64 n.w] (.bool n.fit):=Rl n.v n.w hn.v w;generalize n.fit=F at Xg ⊢;obtain⟨op,nw,na,nb,⟨vh,vl⟩⟩:=n;simp only at hc Xg;clear ho hn;rcases hc with rfl|rfl|rfl|rfl|rfl|rfl
 ·exact (Gg _ _ _ _ _ _ _ _ _ _ _ _ _ _ _ _ _ _ _ _ _ _ _ _ _ _ _ _ _ _ _ _ _ _ _ _ _ _ _ _ _ _ _ _ _ (Qj nw w) Xg).eqv (congrArg (Zt .i64) (Hd _ _ _ _ _ _ _))
 ·by_cases h1:na<0
  ·exact (Gj _ _ _ _ _ _ _ _ _ _ _ _ _ _ _ _ _ _ _ _ _ _ _ _ _ _ _ _ _ _ _ _ _ _ _ _ _ _ _ _ _ _ _ h1).eqv (congrArg (Zt .i64) (Ob _ _ _ _ _ _ _ (if_neg (by omega))))
  ·by_cases h2:(p.heads.l.length:Int)≤na
   ·exact (Gk _ _ _ _ _ _ _ _ _ _ _ _ _ _ _ _ _ _ _ _ _ _ _ _ _ _ _ _ _ _ _ _ _ _ _ _ _ _ _ _ _ _ _ h2).eqv (congrArg (Zt .i64) (Ob _ _ _ _ _ _ _ (if_neg (by unfold Pg.env;simp only[List.length_map];omega))))
   ·obtain⟨k,rfl⟩:∃k:Nat,na=(k:Int):=⟨na.toNat,by omega⟩
    obtain⟨s,hs⟩:=Z6 p.heads.l k (by omega);obtain⟨aa,ha,Yr⟩:=hp.heads.row k s hs;have ZQ:=hp.heads.kids s (Zl hs);have e:=Gh (q0c:=p.heads.cap) (q1p:=p.metas.p) (q1n:=p.metas.l.length) (q1c:=p.metas.cap) (q2p:=p.steps.p) (q2n:=p.steps.l.length) (q2c:=p.steps.cap) (q3p:=p.acts.p) (q3n:=p.acts.l.length) (q3c:=p.acts.cap) (q4p:=p.tabs.p) (q4n:=p.tabs.l.length) (q4c:=p.tabs.cap) (q5p:=p.control.p) (q5n:=p.control.l.length) (q5c:=p.control.cap) (q6p:=p.emit.p) (q6n:=p.emit.l.length) (q6c:=p.emit.cap) (q7p:=p.names.headers.p) (q7n:=p.names.headers.l.length) (q7c:=p.names.headers.cap) (q8p:=p.names.fields.p) (q8n:=p.names.fields.l.length) (q8c:=p.names.fields.cap) (q9p:=p.names.metas.p) (q9n:=p.names.metas.l.length) (q9c:=p.names.metas.cap) (q10p:=p.names.actions.p) (q10n:=p.names.actions.l.length) (q10c:=p.names.actions.cap) (q11p:=p.names.tables.p) (q11n:=p.names.tables.l.length) (q11c:=p.names.tables.cap) act nw nb vh vl (Xb s.l nb) s.p aa k s.l.length s.cap w (q0n:=p.heads.l.length) (by omega) (by rw[Nat.mul_one]at Yr;exact Yr) (Qi s nb _ w ZQ);rw[←ha]at e;refine e.eqv (congrArg (Zt .i64) (He _ _ _ _ _ _ _ _ ?_));rw[Pv,if_pos (by omega)];congr 1
    simp[List.getD_eq_getElem?_getD,hs]
 ·exact (Gl _ _ _ _ _ _ _ _ _ _ _ _ _ _ _ _ _ _ _ _ _ _ _ _ _ _ _ _ _ _ _ _ _ _ _ _ _ _ _ _ _ _ _ _ (Qi p.metas na _ w hp.metas)).eqv (congrArg (Zt .i64) (Hf (p.env act) _ _ _ _ _ _))
 ·by_cases h1:act<0
  ·exact (Gn _ _ _ _ _ _ _ _ _ _ _ _ _ _ _ _ _ _ _ _ _ _ _ _ _ _ _ _ _ _ _ _ _ _ _ _ _ _ _ _ _ _ _ h1).eqv (congrArg (Zt .i64) (Oc _ _ _ _ _ _ _ (by unfold Pg.env;rw[if_neg (by omega)];exact if_neg (by simp only[List.length_nil];omega))))
  ·by_cases h2:(p.acts.l.length:Int)≤act
   ·exact (Gp _ _ _ _ _ _ _ _ _ _ _ _ _ _ _ _ _ _ _ _ _ _ _ _ _ _ _ _ _ _ _ _ _ _ _ _ _ _ _ _ _ _ _ h2).eqv (congrArg (Zt .i64) (Oc _ _ _ _ _ _ _ (by unfold Pg.env;rw[if_neg (by omega)];exact if_neg (by simp only[List.length_nil];omega))))
   ·obtain⟨k,rfl⟩:∃k:Nat,act=(k:Int):=⟨act.toNat,by omega⟩
    obtain⟨s,hs⟩:=Z6 p.acts.l k (by omega);obtain⟨aa,ha,Yr⟩:=hp.acts.row k s hs;have ZQ:=(hp.acts.kids s (Zl hs)).params;have e:=Gm (q3c:=p.acts.cap) (q1p:=p.metas.p) (q1n:=p.metas.l.length) (q1c:=p.metas.cap) (q2p:=p.steps.p) (q2n:=p.steps.l.length) (q2c:=p.steps.cap) (q0p:=p.heads.p) (q0n:=p.heads.l.length) (q0c:=p.heads.cap) (q4p:=p.tabs.p) (q4n:=p.tabs.l.length) (q4c:=p.tabs.cap) (q5p:=p.control.p) (q5n:=p.control.l.length) (q5c:=p.control.cap) (q6p:=p.emit.p) (q6n:=p.emit.l.length) (q6c:=p.emit.cap) (q7p:=p.names.headers.p) (q7n:=p.names.headers.l.length) (q7c:=p.names.headers.cap) (q8p:=p.names.fields.p) (q8n:=p.names.fields.l.length) (q8c:=p.names.fields.cap) (q9p:=p.names.metas.p) (q9n:=p.names.metas.l.length) (q9c:=p.names.metas.cap) (q10p:=p.names.actions.p) (q10n:=p.names.actions.l.length) (q10c:=p.names.actions.cap) (q11p:=p.names.tables.p) (q11n:=p.names.tables.l.length) (q11c:=p.names.tables.cap) nw na nb vh vl (Xb s.params.l na) s.params.p s.body.p aa k s.params.l.length s.params.cap s.body.l.length s.body.cap w (q3n:=p.acts.l.length) (by omega) Yr (Qi s.params na _ w ZQ);rw[←ha]at e;refine e.eqv (congrArg (Zt .i64) (Hg _ _ _ _ _ _ _ _ ?_));unfold Pg.env;rw[if_pos (by omega)];simp[hs]
 ·exact (Gq _ _ _ _ _ _ _ _ _ _ _ _ _ _ _ _ _ _ _ _ _ _ _ _ _ _ _ _ _ _ _ _ _ _ _ _ _ _ _ _ _ _ _).eqv (congrArg (Zt .i64) (Hh _ _ _ _ _ _ _))
 ·refine (Gr _ _ _ _ _ _ _ _ _ _ _ _ _ _ _ _ _ _ _ _ _ _ _ _ _ _ _ _ _ _ _ _ _ _ _ _ _ _ _ _ _ _ _).eqv (congrArg (Zt .i64) ((by unfold Pg.env;simp only[List.length_map]:_=_).trans (Hi (p.env act) F nw na nb vh vl)))
theorem Gz(n:Nd)(x:Int)(w)(hx:1≤x∧x≤128)(ho:n.op=7∨n.op=8∨n.op=9∨n.op=13∨n.op=14) :
  Kp Zr w 18 #[n.val,.int .i64 x] (.int .i64 (Ut n x)):=by
 obtain⟨op,nw,na,nb,⟨vh,vl⟩⟩:=n;simp only at ho;rcases ho with rfl|rfl|rfl|rfl|rfl
 ·exact (Gw nw na nb vh vl x w).eqv (congrArg (Zt .i64) (by simp[Ut]))
 ·exact (Gx nw na nb vh vl x w).eqv (congrArg (Zt .i64) (by simp[Ut]))
 ·exact (Gy nw na nb vh vl x w (by omega)).eqv (congrArg (Zt .i64) (by simp[Ut]))
 ·exact (Gu nw na nb vh vl x w).eqv (congrArg (Zt .i64) (by simp[Ut]))
 ·exact (Gv nw na nb vh vl x w).eqv (congrArg (Zt .i64) (by simp[Ut]))
theorem Oj{n:Nd}(x y:Int)(h:n.op<1∨20<n.op):Wu n x y=0:=by
 unfold Wu;repeat' split
 all_goals omega
theorem Oz(n:Nd)(x y:Int)(w)(hx:1≤x∧x≤128)(hy:1≤y∧y≤128)(ho:n.op<1∨n.op=10∨n.op=11∨n.op=12∨n.op=15∨n.op=16∨n.op=17∨n.op=18∨n.op=19∨n.op=20∨20<n.op) :
  Kp Zr w 19 #[n.val,.int .i64 x,.int .i64 y] (.int .i64 (Wu n x y)):=by
 obtain⟨op,nw,na,nb,⟨vh,vl⟩⟩:=n;simp only at ho;rcases ho with h|rfl|rfl|rfl|rfl|rfl|rfl|rfl|rfl|rfl|h
 ·exact (H5 nw na nb vh vl x y op w h).eqv (congrArg (Zt .i64) (Oj x y (Or.inl h)).symm)
 ·exact (H7 nw na nb vh vl x y w (by omega) (by omega)).eqv (congrArg (Zt .i64) (by unfold Wu;by_cases h1:na=0 <;> by_cases h2:nb=0 <;> simp[h1,h2]))
 ·exact (H8 nw na nb vh vl x y w).eqv (congrArg (Zt .i64) (by unfold Wu;by_cases h1:na=0 <;> by_cases h2:nb=0 <;> by_cases h3:x=y <;> simp[h1,h2,h3]))
 ·exact (H9 nw na nb vh vl x y w).eqv (congrArg (Zt .i64) (by unfold Wu;by_cases h1:na=0 <;> by_cases h2:nb=0 <;> by_cases h3:x=y <;> simp[h1,h2,h3]))
 ·exact (Ga nw na nb vh vl x y w).eqv (congrArg (Zt .i64) (by unfold Wu;by_cases h1:na=0 <;> by_cases h2:nb=0 <;> by_cases h3:x=y <;> simp[h1,h2,h3]))
 ·exact (Gb nw na nb vh vl x y w).eqv (congrArg (Zt .i64) (by unfold Wu;by_cases h1:na=0 <;> by_cases h2:nb=0 <;> by_cases h3:x=y <;> simp[h1,h2,h3]))
 ·exact (Gc nw na nb vh vl x y w).eqv (congrArg (Zt .i64) (by unfold Wu;by_cases h1:na=0 <;> by_cases h2:nb=0 <;> by_cases h3:x=y <;> simp[h1,h2,h3]))
 ·exact (Gd nw na nb vh vl x y w).eqv (congrArg (Zt .i64) (by unfold Wu;by_cases h1:na=0 <;> by_cases h2:nb=0 <;> by_cases h3:x=y <;> simp[h1,h2,h3]))
 ·exact (Ge nw na nb vh vl x y w).eqv (congrArg (Zt .i64) (by unfold Wu;by_cases h1:na=0 <;> by_cases h2:nb=0 <;> by_cases h3:x=y <;> simp[h1,h2,h3]))
 ·exact (Gf nw na nb vh vl x y w).eqv (congrArg (Zt .i64) (by unfold Wu;by_cases h1:na=0 <;> by_cases h2:nb=0 <;> by_cases h3:x=y <;> simp[h1,h2,h3]))
 ·exact (H6 nw na nb vh vl x y op w h).eqv (congrArg (Zt .i64) (Oj x y (Or.inr h)).symm)
end Go.Proofs.YtheaknidbcbneaaGreat
