/-
  WHAT IS PROVED HERE: a part of the proof (made narrower and merged by program; the parts: Db Dg).
-/
import Derived.Test.YtobhijbncchpiaaGreatM21
import Derived.Test.YtobhijbncchpiaaGreatM31
import Derived.Test.YtobhijbncchpiaaGreatM17
import Derived.Test.YtobhijbncchpiaaGreatM16
import Derived.Test.YtobhijbncchpiaaGreatM20
namespace Go.Proofs.YtobhijbncchpiaaGreat
open Go.RowKit
theorem bare_ty (p:Pr) (act:Int):∀ e:Ex,e.bare.ty p act=e.ty p act∧e.bare.free=e.free:=fun e=>Ex.ind (Q:=fun e=>e.bare.ty p act=e.ty p act∧e.bare.free=e.free) (fun e ih=>by
 constructor
 ·rw [Ex.ty_eq,Ex.ty_eq p act e,Ex.bare_eq]
  simp only [Ex.op,Ex.lit,Ex.head,Ex.name,Ex.hi,Ex.lo,Ex.args,List.map_map]
  congr 1
  refine List.map_congr_left fun x hx=>?_
  simp only [Function.comp]
  rw [(ih x hx).1,(ih x hx).2]
 ·have key:Ex.frees (e.args.map Ex.bare)=Ex.frees e.args:=by
   cases hl:e.args with
   | nil=>rfl
   | cons x l=>rw [List.map_cons,Ex.frees,Ex.frees,(ih x (by rw [hl];exact List.mem_cons_self ..)).2]
  rw [Ex.free_eq,Ex.free_eq e,Ex.bare_eq]
  show (if e.op=1 then e.lit.n else Ex.frees (e.args.map Ex.bare))=_
  rw [key]) e
theorem like_ty {e f:Ex} (h:e.bare=f.bare) (p:Pr) (act:Int):e.ty p act=f.ty p act:=by
 rw [← (bare_ty p act e).1,← (bare_ty p act f).1,h]
theorem like_free {e f:Ex} (h:e.bare=f.bare) (p:Pr):e.free=f.free:=by
 rw [← (bare_ty p 0 e).2,← (bare_ty p 0 f).2,h]
/-- The first of these that is not 0. -/
def firstE:List Int→Int
 | []=>0
 | x :: l=>if x=0 then firstE l else x
theorem firstE_zero:∀ (l:List Int),(∀ (k:Nat) (x:Int),l[k]?=some x→x=0)→firstE l=0
 | [],_=>rfl
 | x :: l,h=>by
  rw [firstE,if_pos (h 0 x rfl)]
  exact firstE_zero l fun k y hy=>h (k+1) y (by simpa using hy)
theorem firstE_at:∀ (l:List Int) (k:Nat) (x:Int),l[k]?=some x→(∀ (j:Nat) (y:Int),j < k→l[j]?=some y→y=0)→x≠0→firstE l=x
 | [],k,x,h,_,_=>by simp at h
 | y :: l,0,x,h,_,hx=>by
  obtain rfl:y=x:=by simpa using h
  rw [firstE,if_neg hx]
 | y :: l,k+1,x,h,hj,hx=>by
  rw [firstE,if_pos (hj 0 y (Nat.succ_pos k) rfl)]
  exact firstE_at l k x (by simpa using h) (fun j z hlt hz=>hj (j+1) z (Nat.succ_lt_succ hlt) (by simpa using hz)) hx
theorem firstE_all:∀ (l:List Int),firstE l=0→∀ x ∈ l,x=0
 | [],_,x,h=>by cases h
 | y :: l,h,x,hx=>by
  rw [firstE] at h
  by_cases e:y=0
  ·rw [if_pos e] at h
   rcases List.mem_cons.1 hx with rfl | hx
   ·exact e
   ·exact firstE_all l h x hx
  ·rw [if_neg e] at h
   exact absurd h e
/-- A number that goes to a width. -/
def litE (t:Lt) (w:Int):Int:=if t.w=0 then (if fitsN t.n w then 0 else 5) else if t.w=w then 0 else 10
/-- An expression that must have bits. -/
def keyT (p:Pr) (e:Ex):Int:=if (e.ty p (-1)).1=0 then bitsE (e.ty p (-1)).2 else (e.ty p (-1)).1
def keyW (p:Pr) (e:Ex):Int:=(e.ty p (-1)).2.w
def nextE (p:Pr) (s:Sa):Int:=firstE (s.keys.l.map (keyT p))
/-- A case's numbers, one by one, beside the widths that they go to. -/
def setsL:List Se→List Int→List Int
 | x :: l,w :: ws=>(if litE x.v w=0 then litE x.m w else litE x.v w) :: setsL l ws
 | _,_=>[]
def caseE (p:Pr) (s:Sa) (c:Ca):Int:=firstE (setsL c.sets.l (s.keys.l.map (keyW p)))
def keyE (p:Pr) (t:Ta) (b:Nat):Int:=match t.keys.l[b]? with
 | some k=>if keyT p k.e=0 then (if k.kind=2 then (if (t.keys.l.take b).all fun y=>decide (y.kind≠2) then 0 else 8) else 0) else keyT p k.e
 | none=>0
def argsL:List Lt→List Fd→List Int
 | x :: l,f :: ws=>litE x f.w :: argsL l ws
 | _,_=>[]
def dfltE (p:Pr) (t:Ta):Int:=match p.actions.l[(acI p.actions.l t.dflt.name).toNat]? with
 | some a=>firstE (argsL t.dflt.args.l a.params.l)
 | none=>0
def targetW (p:Pr) (s:St):Int:=if s.head.toList=[] then widthF p.metas.l (fdI p.metas.l s.name) else hdW p (hdI p.headers.l s.head) (fieldI p (hdI p.headers.l s.head) s.name)
def stE (p:Pr) (a:Int) (s:St):Int :=
 if s.kind=1 then (if (s.e.ty p a).1=0 then goesE (s.e.ty p a).2 s.e.free (targetW p s) else (s.e.ty p a).1)
 else if s.kind=2 then (if (s.e.ty p a).1=0 then (if (s.e.ty p a).2.tr then 0 else 9) else (s.e.ty p a).1)
 else if s.kind=5 then (if (s.e.ty p a).1=0 then (if (s.e.ty p a).2.tr then 9 else if (s.e.ty p a).2.fr then goesE (s.e.ty p a).2 s.e.free 9 else 0) else (s.e.ty p a).1)
 else 0
/-- What is wrong with an item: an error's number; 0: nothing. -/
def tyI (p:Pr):It→Int
 | .st a s=>stE p a s
 | .num kind a b =>
  if kind=6 then (match p.states.l[a]? with | some s=>nextE p s | none=>0)
  else if kind=7 then (match p.states.l[a]? with | some s=>(match s.cases.l[b]? with | some c=>caseE p s c | none=>0) | none=>0)
  else if kind=12 then (match p.tables.l[a]? with | some t=>keyE p t b | none=>0)
  else if kind=14 then (match p.tables.l[a]? with | some t=>dfltE p t | none=>0)
  else 0
theorem sets_at:∀ (l:List Se) (ws:List Int) (k:Nat) (x:Se) (w:Int),l[k]?=some x→ws[k]?=some w→(setsL l ws)[k]?=some (if litE x.v w=0 then litE x.m w else litE x.v w)
 | [],_,k,x,w,h,_=>by simp at h
 | _ :: _,[],k,x,w,_,h=>by simp at h
 | y :: l,v :: ws,0,x,w,h,h2=>by
  obtain rfl:y=x:=by simpa using h
  obtain rfl:v=w:=by simpa using h2
  rfl
 | y :: l,v :: ws,k+1,x,w,h,h2=>by
  rw [setsL]
  simpa using sets_at l ws k x w (by simpa using h) (by simpa using h2)
theorem sets_len:∀ (l:List Se) (ws:List Int),(setsL l ws).length≤l.length
 | [],_=>by simp [setsL]
 | _ :: _,[]=>by simp [setsL]
 | _ :: l,_ :: ws=>by have:=sets_len l ws;simp only [setsL,List.length_cons];omega
theorem args_at:∀ (l:List Lt) (ws:List Fd) (k:Nat) (x:Lt) (w:Fd),l[k]?=some x→ws[k]?=some w→(argsL l ws)[k]?=some (litE x w.w)
 | [],_,k,x,w,h,_=>by simp at h
 | _ :: _,[],k,x,w,_,h=>by simp at h
 | y :: l,v :: ws,0,x,w,h,h2=>by
  obtain rfl:y=x:=by simpa using h
  obtain rfl:v=w:=by simpa using h2
  rfl
 | y :: l,v :: ws,k+1,x,w,h,h2=>by
  rw [argsL]
  simpa using args_at l ws k x w (by simpa using h) (by simpa using h2)
theorem args_len:∀ (l:List Lt) (ws:List Fd),(argsL l ws).length≤l.length
 | [],_=>by simp [argsL]
 | _ :: _,[]=>by simp [argsL]
 | _ :: l,_ :: ws=>by have:=args_len l ws;simp only [argsL,List.length_cons];omega
set_option maxRecDepth 100000 in
set_option maxHeartbeats 16000000 in
theorem t_Lit (t:Lt) (k:Int) (h:t.Ok):Pure Tryz.prog 164 #[.agg t.cells.toArray,.int .i64 k] (.int .i64 (litE t k)):=by
 have hf:=num_fits t.n k (Lt.n_lt h)
 rw [← Lt.nv_eq h] at hf
 obtain⟨B,hB⟩:∃ B,fitsN t.n k=B:=⟨_,rfl⟩
 rw [show decide (t.n % 2 ^ hw k=t.n)=B from hB] at hf
 intro V
 obtain⟨lw,lh,ll⟩:=t
 have hE:litE ⟨lw,lh,ll⟩ k=if lw=0 then (if B then 0 else 5) else if lw=k then 0 else 10:=by rw [← hB];rfl
 rw [hE]
 clear hE hB h
 simp only [Lt.cells]
 simp only at hf
 have hf':=Lib.hid hf
 clear hf
 by_cases h0:lw=0
 ·subst h0
  rw [if_pos rfl]
  go_enter Tryz.func164,Tryz.ntmps164
  go_upto_region 1 with (fail)
  obtain⟨X,Y0,hX,⟨zX,hzX⟩,ca⟩:=box1n V _ 42
  rw [hX]
  have d0:=ca 0 _ rfl
  have d1:=ca 1 _ rfl
  have d2:=ca 2 _ rfl
  have hz:=Lib.hid hzX
  clear hX ca hzX
  go_wp2_with fail
  refine (hf'.out.at X _).mono ?_
  rintro r w' ⟨rfl,x1,rfl⟩
  clear hf'
  cases B <;>
  ·go_wp2
   go_ret
   exact⟨rfl,by rw [hz.out,plus_plus];exact⟨_,rfl⟩⟩
 ·rw [if_neg h0]
  have e0:(lw == 0)=false:=by simpa using h0
  clear hf'
  by_cases hk:lw=k
  ·subst hk
   rw [if_pos rfl]
   go_enter Tryz.func164,Tryz.ntmps164
   go_upto_region 1 with (fail)
   obtain⟨X,Y0,hX,⟨zX,hzX⟩,ca⟩:=box1n V _ 42
   rw [hX]
   have d0:=ca 0 _ rfl
   have hz:=Lib.hid hzX
   clear hX ca hzX
   go_wp2
   go_ret
   exact⟨rfl,by rw [hz.out,plus_plus];exact⟨_,rfl⟩⟩
  ·rw [if_neg hk]
   have n0:(lw != 0)=true:=by simpa using h0
   have nk:(lw != k)=true:=by simpa using hk
   go_enter Tryz.func164,Tryz.ntmps164
   go_upto_region 1 with (fail)
   obtain⟨X,Y0,hX,⟨zX,hzX⟩,ca⟩:=box1n V _ 42
   rw [hX]
   have d0:=ca 0 _ rfl
   have hz:=Lib.hid hzX
   clear hX ca hzX
   go_wp2
   go_ret
   exact⟨rfl,by rw [hz.out,plus_plus];exact⟨_,rfl⟩⟩
set_option maxRecDepth 100000 in
set_option maxHeartbeats 16000000 in
theorem t_litGoes (t:Lt) (k:Int) (w:World) (h:t.Ok):KpE Tryz.prog w 99 #[.agg t.cells.toArray,.int .i64 k] (endE (litE t k) (.tuple #[])):=by
 intro y0
 have kl:=t_Lit t k h
 obtain⟨V,hV⟩:∃ V,plus w y0=V:=⟨_,rfl⟩
 rw [hV]
 clear hV h
 obtain⟨R,hR⟩:∃ R,litE t k=R:=⟨_,rfl⟩
 rw [hR] at kl ⊢
 clear hR
 obtain⟨lw,lh,ll⟩:=t
 simp only [Lt.cells] at kl ⊢
 have kl':=Lib.hid kl
 clear kl
 by_cases r0:R=0
 ·subst r0
  go_enter Tryz.func99,Tryz.ntmps99
  go_wp2_with fail
  obtain⟨X,Y0,hX,⟨zX,hzX⟩,ca⟩:=box1n V _ 42
  rw [hX]
  have d0:=ca 0 _ rfl
  have d1:=ca 1 _ rfl
  have d2:=ca 2 _ rfl
  have hz:=Lib.hid hzX
  clear hX ca hzX
  go_wp2_with fail
  refine (kl'.out.at X _).mono ?_
  rintro r w' ⟨rfl,x1,rfl⟩
  clear kl'
  go_wp2_with fail
  refine (need_yes X 0 x1).mono ?_
  rintro r w' ⟨rfl,x2,rfl⟩
  go_wp2
  go_end0
  exact⟨rfl,by rw [hz.out,plus_plus,plus_plus];exact⟨_,rfl⟩⟩
 ·have e0:(R == 0)=false:=by simpa using r0
  rw [show endE R (.tuple #[])=gaveE R by rw [endE,if_neg r0]]
  go_enter Tryz.func99,Tryz.ntmps99
  go_wp2_with fail
  obtain⟨X,Y0,hX,⟨zX,hzX⟩,ca⟩:=box1n V _ 42
  rw [hX]
  have d0:=ca 0 _ rfl
  have d1:=ca 1 _ rfl
  have d2:=ca 2 _ rfl
  have hz:=Lib.hid hzX
  clear hX ca hzX
  go_wp2_with fail
  refine (kl'.out.at X _).mono ?_
  rintro r w' ⟨rfl,x1,rfl⟩
  clear kl'
  go_wp2_with fail
  refine (need_no X R x1).mono ?_
  rintro r w' ⟨rfl,x2,rfl⟩
  go_wp2
  exact⟨rfl,rfl,by rw [hz.out,plus_plus,plus_plus];exact⟨_,rfl⟩⟩
end Go.Proofs.YtobhijbncchpiaaGreat
