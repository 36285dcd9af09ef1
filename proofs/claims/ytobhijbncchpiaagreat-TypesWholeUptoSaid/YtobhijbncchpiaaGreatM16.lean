/-
  WHAT IS PROVED HERE: a part of the proof (made narrower and merged by program; the parts: Va Vk Vl).
-/
import Derived.Laws.Rows
import Derived.Test.YtobhijbncchpiaaGreatM6
import Derived.Test.YtobhijbncchpiaaGreatM15
namespace Go.Proofs.YtobhijbncchpiaaGreat
open Go.RowKit
/-- A type: bits of a width, a truth, or free. -/
structure Ty where
 w:Int
 tr:Bool
 fr:Bool
def Ty.v (t:Ty):Value:=.agg #[.int .i64 t.w,.bool t.tr,.bool t.fr]
def ty0:Ty:=⟨0,false,false⟩
def tyW (w:Int):Ty:=⟨w,false,false⟩
/-- What is wrong with a type that must be bits of a width. -/
def bitsE (t:Ty):Int:=if t.tr then 9 else if t.fr then 10 else 0
def widthF (l:List Fd) (i:Int):Int:=match l[i.toNat]? with | some y=>y.w | none=>0
def hdW (p:Pr) (h f:Int):Int:=match p.headers.l[h.toNat]? with | some x=>widthF x.fields.l f | none=>0
def acW (p:Pr) (a f:Int):Int:=match p.actions.l[a.toNat]? with | some x=>widthF x.params.l f | none=>0
def leafT (p:Pr) (act:Int) (op w:Int) (hd nm:ByteArray):Int × Ty :=
 if op=1 then (0,⟨w,false,w == 0⟩)
 else if op=2 then (if fieldI p (hdI p.headers.l hd) nm=-1 then (7,ty0) else (0,tyW (hdW p (hdI p.headers.l hd) (fieldI p (hdI p.headers.l hd) nm))))
 else if op=3 then (if fdI p.metas.l nm=-1 then (7,ty0) else (0,tyW (widthF p.metas.l (fdI p.metas.l nm))))
 else if op=4 then (if paramI p act nm=-1 then (7,ty0) else (0,tyW (acW p act (paramI p act nm))))
 else if op=6 then (if hdI p.headers.l hd=-1 then (7,ty0) else (0,⟨0,true,false⟩))
 else (0,tyW 9)
def fitsN (n:Nat) (k:Int):Bool:=decide (n % 2 ^ hw k=n)
mutual
/-- The number at the end of signs. -/
def Ex.free:Ex→Nat
 | .mk op lit _ _ _ _ _ _ l=>if op=1 then lit.n else Ex.frees l
def Ex.frees:List Ex→Nat
 | []=>0
 | x :: _=>x.free
end
theorem Ex.free_eq (e:Ex):e.free=if e.op=1 then e.lit.n else Ex.frees e.args:=by cases e;rw [Ex.free];rfl
mutual
/-- Is it signs ahead of a number? -/
def Ex.chain:Ex→Bool
 | .mk op _ _ _ _ _ _ _ l=>op == 1 || Ex.chains l
def Ex.chains:List Ex→Bool
 | []=>false
 | x :: _=>x.chain
end
theorem Ex.chain_eq (e:Ex):e.chain=(e.op == 1 || Ex.chains e.args):=by cases e;rw [Ex.chain];rfl
def singleT (op hi lo:Int) (t:Ty):Int × Ty :=
 if op=9 then (if t.tr then (0,t) else (9,ty0))
 else if op=10 then (if bitsE t≠0 then (bitsE t,ty0) else if t.w≤hi then (5,ty0) else (0,tyW (hi - lo+1)))
 else if t.tr then (9,ty0) else (0,t)
/-- The width that both sides have; n, m: the numbers of those that are free. -/
def sidesT (n m:Nat) (s t:Ty):Int × Int :=
 if s.tr || t.tr then (9,0)
 else if s.fr && t.fr then (10,0)
 else if s.fr then (if fitsN n t.w then (0,t.w) else (5,0))
 else if t.fr then (if fitsN m s.w then (0,s.w) else (5,0))
 else if s.w=t.w then (0,s.w) else (10,0)
def pairT (op:Int) (n m:Nat) (s t:Ty):Int × Ty :=
 if op=25∨op=26 then (if s.tr && t.tr then (0,s) else (9,ty0))
 else if op=11 then (if bitsE s≠0 then (bitsE s,ty0) else if bitsE t≠0 then (bitsE t,ty0) else if 128 < s.w+t.w then (5,ty0) else (0,tyW (s.w+t.w)))
 else if (sidesT n m s t).1≠0 then ((sidesT n m s t).1,ty0)
 else if 19≤op∧op≤24 then (0,⟨0,true,false⟩) else (0,tyW (sidesT n m s t).2)
/-- The type of an expression whose Args have these types, and these numbers, if they are free. -/
def tyC (p:Pr) (act:Int) (op w:Int) (hd nm:ByteArray) (hi lo:Int):List ((Int × Ty) × Nat)→Int × Ty
 | []=>leafT p act op w hd nm
 | (r,n) :: l =>
  if r.1≠0 then (r.1,ty0)
  else if op=14∨op=15 then (if bitsE r.2≠0 then (bitsE r.2,ty0) else (0,r.2))
  else match l with
   | []=>singleT op hi lo r.2
   | (s,m) :: _=>if s.1≠0 then (s.1,ty0) else pairT op n m r.2 s.2
mutual
def Ex.ty (p:Pr) (act:Int):Ex→Int × Ty
 | .mk op lit hd nm hi lo _ _ l=>tyC p act op lit.w hd nm hi lo (Ex.tys p act l)
def Ex.tys (p:Pr) (act:Int):List Ex→List ((Int × Ty) × Nat)
 | []=>[]
 | x :: l=>(x.ty p act,x.free) :: Ex.tys p act l
end
theorem Ex.tys_map (p:Pr) (act:Int):∀ l:List Ex,Ex.tys p act l=l.map fun x=>(x.ty p act,x.free)
 | []=>by rw [Ex.tys];rfl
 | x :: l=>by rw [Ex.tys,Ex.tys_map p act l];rfl
theorem Ex.ty_eq (p:Pr) (act:Int) (e:Ex):e.ty p act=tyC p act e.op e.lit.w e.head e.name e.hi e.lo (e.args.map fun x=>(x.ty p act,x.free)):=by
 cases e;rw [Ex.ty,Ex.tys_map];rfl
theorem bitsE_zero {t:Ty} (h:bitsE t=0):t.tr=false∧t.fr=false:=by
 obtain⟨w,tr,fr⟩:=t
 unfold bitsE at h
 cases tr <;> cases fr <;> simp at h ⊢
/-- No type is a truth and free; a free one is signs ahead of a number. -/
theorem Ex.ty_fine (p:Pr) (act:Int):∀ e:Ex,(e.ty p act).1=0→¬ ((e.ty p act).2.tr=true∧(e.ty p act).2.fr=true)∧((e.ty p act).2.fr=true→e.chain=true):=fun e=>Ex.ind (Q:=fun e=>(e.ty p act).1=0→¬ ((e.ty p act).2.tr=true∧(e.ty p act).2.fr=true)∧((e.ty p act).2.fr=true→e.chain=true)) (fun e ih h=>by
 rw [Ex.ty_eq] at h ⊢
 rw [Ex.chain_eq]
 cases hl:e.args with
 | nil =>
  rw [hl] at h
  simp only [List.map_nil,tyC] at h ⊢
  unfold leafT at h ⊢
  by_cases o1:e.op=1
  ·rw [if_pos o1];simp [o1]
  rw [if_neg o1] at h ⊢
  by_cases o2:e.op=2
  ·rw [if_pos o2] at h ⊢
   split at h
   ·simp at h
   ·next q=>rw [if_neg q];simp [tyW]
  rw [if_neg o2] at h ⊢
  by_cases o3:e.op=3
  ·rw [if_pos o3] at h ⊢
   split at h
   ·simp at h
   ·next q=>rw [if_neg q];simp [tyW]
  rw [if_neg o3] at h ⊢
  by_cases o4:e.op=4
  ·rw [if_pos o4] at h ⊢
   split at h
   ·simp at h
   ·next q=>rw [if_neg q];simp [tyW]
  rw [if_neg o4] at h ⊢
  by_cases o6:e.op=6
  ·rw [if_pos o6] at h ⊢
   split at h
   ·simp at h
   ·next q=>rw [if_neg q];simp
  rw [if_neg o6]
  simp [tyW]
 | cons a l =>
  have ha:=ih a (by rw [hl];exact List.mem_cons_self ..)
  rw [hl] at h
  simp only [List.map_cons,tyC,Ex.chains] at h ⊢
  obtain⟨⟨ra,ta⟩,hra⟩:∃ r,a.ty p act=r:=⟨_,rfl⟩
  rw [hra] at h ha ⊢
  simp only at h ha ⊢
  by_cases r0:ra=0
  ·subst r0
   simp only [ne_eq,not_true_eq_false,if_false] at h ⊢
   obtain⟨i1,i2⟩:=ha rfl
   by_cases os:e.op=14∨e.op=15
   ·rw [if_pos os] at h ⊢
    by_cases q:bitsE ta=0
    ·obtain⟨t1,t2⟩:=bitsE_zero q
     rw [if_neg (by simpa using q)]
     simp [t1,t2]
    ·rw [if_pos q] at h;exact absurd h q
   rw [if_neg os] at h ⊢
   cases l with
   | nil =>
    simp only [List.map_nil] at h ⊢
    unfold singleT at h ⊢
    by_cases o9:e.op=9
    ·rw [if_pos o9] at h ⊢
     by_cases q:ta.tr=true
     ·rw [if_pos q];exact⟨i1,fun f=>absurd ⟨q,f⟩ i1⟩
     ·rw [if_neg q] at h;simp at h
    rw [if_neg o9] at h ⊢
    by_cases o10:e.op=10
    ·rw [if_pos o10] at h ⊢
     by_cases q:bitsE ta=0
     ·rw [if_neg (by simpa using q)] at h ⊢
      by_cases q2:ta.w≤e.hi
      ·rw [if_pos q2] at h;simp at h
      ·rw [if_neg q2];simp [tyW]
     ·rw [if_pos q] at h;exact absurd h q
    rw [if_neg o10] at h ⊢
    by_cases q:ta.tr=true
    ·rw [if_pos q] at h;simp at h
    ·rw [if_neg q]
     exact⟨i1,fun f=>by rw [i2 f,Bool.or_true]⟩
   | cons b l =>
    simp only [List.map_cons] at h ⊢
    have hb:=ih b (by rw [hl];exact List.mem_cons_of_mem _ (List.mem_cons_self ..))
    obtain⟨⟨rb,tb⟩,hrb⟩:∃ r,b.ty p act=r:=⟨_,rfl⟩
    rw [hrb] at h hb ⊢
    simp only at h hb ⊢
    by_cases r1:rb=0
    ·subst r1
     simp only [not_true_eq_false,if_false] at h ⊢
     unfold pairT at h ⊢
     by_cases o25:e.op=25∨e.op=26
     ·rw [if_pos o25] at h ⊢
      by_cases q:(ta.tr && tb.tr)=true
      ·rw [if_pos q]
       have q1:ta.tr=true:=by simp at q;exact q.1
       exact⟨i1,fun f=>absurd ⟨q1,f⟩ i1⟩
      ·rw [if_neg q] at h;simp at h
     rw [if_neg o25] at h ⊢
     by_cases o11:e.op=11
     ·rw [if_pos o11] at h ⊢
      by_cases q:bitsE ta=0
      ·rw [if_neg (by simpa using q)] at h ⊢
       by_cases q2:bitsE tb=0
       ·rw [if_neg (by simpa using q2)] at h ⊢
        by_cases q3:128 < ta.w+tb.w
        ·rw [if_pos q3] at h;simp at h
        ·rw [if_neg q3];simp [tyW]
       ·rw [if_pos q2] at h;exact absurd h q2
      ·rw [if_pos q] at h;exact absurd h q
     rw [if_neg o11] at h ⊢
     by_cases q:(sidesT a.free b.free ta tb).1=0
     ·rw [if_neg (by simpa using q)]
      split <;> simp [tyW]
     ·rw [if_pos q] at h;exact absurd h q
    ·rw [if_pos (by simpa using r1)] at h;exact absurd h r1
  ·rw [if_pos (by simpa using r0)] at h;exact absurd h r0) e
/-- A program's widths are those that may be. -/
structure Wide (p:Pr):Prop where
 hd:∀ x ∈ p.headers.l,∀ y ∈ x.fields.l,1≤y.w∧y.w≤128
 mt:∀ y ∈ p.metas.l,1≤y.w∧y.w≤128
 ac:∀ x ∈ p.actions.l,∀ y ∈ x.params.l,1≤y.w∧y.w≤128
theorem fd_wide {y:Fd} (h:fdB y=true):1≤y.w∧y.w≤128:=by
 unfold fdB widthB at h
 simp only [Bool.and_eq_true,decide_eq_true_eq] at h
 exact h.2
theorem eachB_all {α:Type} {lo hi:Int} {f:α→Bool} {l:List α} (h:eachB lo hi f l=true):∀ x ∈ l,f x=true:=by
 unfold eachB at h
 simp only [Bool.and_eq_true,decide_eq_true_eq,List.all_eq_true] at h
 exact h.2
theorem eachB_len {α:Type} {lo hi:Int} {f:α→Bool} {l:List α} (h:eachB lo hi f l=true):lo≤(l.length:Int)∧(l.length:Int)≤hi:=by
 unfold eachB at h
 simp only [Bool.and_eq_true,decide_eq_true_eq,List.all_eq_true] at h
 exact h.1
theorem wide_of {p:Pr} (hB:prB p=true):Wide p:=by
 unfold prB at hB
 simp only [Bool.and_eq_true] at hB
 obtain⟨hH,hM,-,hA,-⟩:=hB
 refine⟨fun x hx y hy=>?_,fun y hy=>fd_wide (eachB_all hM y hy),fun x hx y hy=>?_⟩
 ·have h:=eachB_all hH x hx
  unfold hrB at h
  simp only [Bool.and_eq_true] at h
  exact fd_wide (eachB_all h.2 y hy)
 ·have h:=eachB_all hA x hx
  unfold acB at h
  simp only [Bool.and_eq_true] at h
  exact fd_wide (eachB_all h.2.1 y hy)
/-- What is found first, if anything is, stands there. -/
theorem found {α:Type} (q:α→Bool) (l:List α) (h:firstI q l 0≠-1):∃ (i:Nat) (x:α),firstI q l 0=(i:Int)∧l[i]?=some x∧q x=true:=by
 have go:∀ (l:List α) (k:Nat),firstI q l k≠-1→∃ (i:Nat) (x:α),firstI q l k=((k+i:Nat):Int)∧l[i]?=some x∧q x=true:=by
  intro l
  induction l with
  | nil=>intro k h;exact absurd rfl h
  | cons x l ih =>
   intro k h
   rw [firstI] at h ⊢
   by_cases e:q x=true
   ·rw [if_pos e];exact⟨0,x,rfl,rfl,e⟩
   ·rw [if_neg e] at h ⊢
    obtain⟨i,y,h1,h2,h3⟩:=ih (k+1) h
    exact⟨i+1,y,by rw [h1];omega,by simpa using h2,h3⟩
 obtain⟨i,x,h1,h2,h3⟩:=go l 0 h
 exact⟨i,x,by rw [h1];omega,h2,h3⟩
theorem fd_found {l:List Fd} {s:ByteArray} (h:fdI l s≠-1):∃ (i:Nat) (y:Fd),fdI l s=(i:Int)∧l[i]?=some y:=by
 obtain⟨i,y,h1,h2,-⟩:=found _ l h
 exact⟨i,y,h1,h2⟩
theorem field_found {p:Pr} {h:Int} {s:ByteArray} (hn:fieldI p h s≠-1):∃ (k:Nat) (x:Hr) (i:Nat) (y:Fd),h=(k:Int)∧p.headers.l[k]?=some x∧fieldI p h s=(i:Int)∧x.fields.l[i]?=some y:=by
 unfold fieldI at hn ⊢
 split at hn
 ·exact absurd rfl hn
 ·next q =>
  rw [if_neg q]
  cases hx:p.headers.l[h.toNat]? with
  | none=>rw [hx] at hn;exact absurd rfl hn
  | some x =>
   rw [hx] at hn
   obtain⟨i,y,h1,h2⟩:=fd_found hn
   exact⟨h.toNat,x,i,y,by omega,hx,h1,h2⟩
theorem param_found {p:Pr} {h:Int} {s:ByteArray} (hn:paramI p h s≠-1):∃ (k:Nat) (x:Ac) (i:Nat) (y:Fd),h=(k:Int)∧p.actions.l[k]?=some x∧paramI p h s=(i:Int)∧x.params.l[i]?=some y:=by
 unfold paramI at hn ⊢
 split at hn
 ·exact absurd rfl hn
 ·next q =>
  rw [if_neg q]
  cases hx:p.actions.l[h.toNat]? with
  | none=>rw [hx] at hn;exact absurd rfl hn
  | some x =>
   rw [hx] at hn
   obtain⟨i,y,h1,h2⟩:=fd_found hn
   exact⟨h.toNat,x,i,y,by omega,hx,h1,h2⟩
theorem fd_at {l:List Fd} {i:Nat} {y:Fd} (h:l[i]?=some y):widthF l (i:Int)=y.w:=by
 unfold widthF
 rw [Int.toNat_natCast,h]
theorem sides_w {n m:Nat} {s t:Ty} (h:(sidesT n m s t).1=0):s.tr=false∧t.tr=false∧¬ (s.fr=true∧t.fr=true)∧((s.fr=true∧(sidesT n m s t).2=t.w)∨(s.fr=false∧(sidesT n m s t).2=s.w)):=by
 unfold sidesT at h ⊢
 by_cases q1:(s.tr || t.tr)=true
 ·rw [if_pos q1] at h;simp at h
 rw [if_neg q1] at h ⊢
 have q1:s.tr=false∧t.tr=false:=by simpa using q1
 by_cases q2:(s.fr && t.fr)=true
 ·rw [if_pos q2] at h;simp at h
 rw [if_neg q2] at h ⊢
 have q2:¬ (s.fr=true∧t.fr=true):=by simpa using q2
 refine⟨q1.1,q1.2,q2,?_⟩
 by_cases q3:s.fr=true
 ·rw [if_pos q3] at h ⊢
  by_cases q4:fitsN n t.w=true
  ·rw [if_pos q4];exact .inl ⟨q3,rfl⟩
  ·rw [if_neg q4] at h;simp at h
 rw [if_neg q3] at h ⊢
 have q3:s.fr=false:=by simpa using q3
 by_cases q5:t.fr=true
 ·rw [if_pos q5] at h ⊢
  by_cases q4:fitsN m s.w=true
  ·rw [if_pos q4];exact .inr ⟨q3,rfl⟩
  ·rw [if_neg q4] at h;simp at h
 rw [if_neg q5] at h ⊢
 by_cases q6:s.w=t.w
 ·rw [if_pos q6];exact .inr ⟨q3,rfl⟩
 ·rw [if_neg q6] at h;simp at h
/-- Where widths are those that may be, the type of an expression that may be has one, if it has one. -/
theorem Ex.ty_wide (p:Pr) (hW:Wide p) (act:Int):∀ (e:Ex) (n:Nat),e.may n=true→(e.ty p act).1=0→(e.ty p act).2.tr=false→(e.ty p act).2.fr=false→1≤(e.ty p act).2.w∧(e.ty p act).2.w≤128:=fun e=>Ex.ind (Q:=fun e=>∀ n:Nat,e.may n=true→(e.ty p act).1=0→(e.ty p act).2.tr=false→(e.ty p act).2.fr=false→1≤(e.ty p act).2.w∧(e.ty p act).2.w≤128) (fun e ih n hm h h1 h2=>by
 cases n with
 | zero=>simp [Ex.may] at hm
 | succ n =>
 rw [Ex.may] at hm
 simp only [Bool.and_eq_true] at hm
 obtain⟨-,hf,hk⟩:=hm
 have hkid:=eachB_all hk
 unfold Ex.fits at hf
 simp only [Bool.and_eq_true] at hf
 obtain⟨hlit,-,-,hend,-⟩:=hf
 rw [Ex.ty_eq] at h h1 h2 ⊢
 cases hl:e.args with
 | nil =>
  rw [hl] at h h1 h2
  simp only [List.map_nil,tyC] at h h1 h2 ⊢
  unfold leafT at h h1 h2 ⊢
  by_cases o1:e.op=1
  ·rw [if_pos o1] at h2 ⊢
   simp only at h2 ⊢
   unfold litB xLit at hlit
   rw [o1] at hlit
   simp only [beq_self_eq_true,if_true] at hlit
   unfold ltB widthB at hlit
   rw [h2] at hlit
   simp only [Bool.false_or,Bool.and_eq_true,decide_eq_true_eq] at hlit
   exact hlit.1
  rw [if_neg o1] at h h1 h2 ⊢
  by_cases o2:e.op=2
  ·rw [if_pos o2] at h h1 h2 ⊢
   by_cases q:fieldI p (hdI p.headers.l e.head) e.name=-1
   ·rw [if_pos q] at h;simp at h
   ·rw [if_neg q]
    obtain⟨k,x,i,y,g1,g2,g3,g4⟩:=field_found q
    rw [g3,g1]
    show 1≤hdW p (k:Int) (i:Int)∧hdW p (k:Int) (i:Int)≤128
    unfold hdW
    rw [Int.toNat_natCast,g2]
    show 1≤widthF x.fields.l (i:Int)∧widthF x.fields.l (i:Int)≤128
    rw [fd_at g4]
    exact hW.hd x (List.mem_of_getElem? g2) y (List.mem_of_getElem? g4)
  rw [if_neg o2] at h h1 h2 ⊢
  by_cases o3:e.op=3
  ·rw [if_pos o3] at h h1 h2 ⊢
   by_cases q:fdI p.metas.l e.name=-1
   ·rw [if_pos q] at h;simp at h
   ·rw [if_neg q]
    obtain⟨i,y,g3,g4⟩:=fd_found q
    rw [g3]
    show 1≤widthF p.metas.l (i:Int)∧widthF p.metas.l (i:Int)≤128
    rw [fd_at g4]
    exact hW.mt y (List.mem_of_getElem? g4)
  rw [if_neg o3] at h h1 h2 ⊢
  by_cases o4:e.op=4
  ·rw [if_pos o4] at h h1 h2 ⊢
   by_cases q:paramI p act e.name=-1
   ·rw [if_pos q] at h;simp at h
   ·rw [if_neg q]
    obtain⟨k,x,i,y,g1,g2,g3,g4⟩:=param_found q
    rw [g3,g1]
    show 1≤acW p (k:Int) (i:Int)∧acW p (k:Int) (i:Int)≤128
    unfold acW
    rw [Int.toNat_natCast,g2]
    show 1≤widthF x.params.l (i:Int)∧widthF x.params.l (i:Int)≤128
    rw [fd_at g4]
    exact hW.ac x (List.mem_of_getElem? g2) y (List.mem_of_getElem? g4)
  rw [if_neg o4] at h h1 h2 ⊢
  by_cases o6:e.op=6
  ·rw [if_pos o6] at h h1 h2
   by_cases q:hdI p.headers.l e.head=-1
   ·rw [if_pos q] at h;simp at h
   ·rw [if_neg q] at h1;simp at h1
  rw [if_neg o6]
  simp [tyW]
 | cons a l =>
  have ka:=ih a (by rw [hl];exact List.mem_cons_self ..) n (hkid a (by rw [hl];exact List.mem_cons_self ..))
  have fa:=Ex.ty_fine p act a
  rw [hl] at h h1 h2
  simp only [List.map_cons,tyC] at h h1 h2 ⊢
  obtain⟨⟨ra,ta⟩,hra⟩:∃ r,a.ty p act=r:=⟨_,rfl⟩
  rw [hra] at h h1 h2 ka fa ⊢
  simp only at h h1 h2 ka fa ⊢
  by_cases r0:ra=0
  ·subst r0
   have ka:=ka rfl
   simp only [ne_eq,not_true_eq_false,if_false] at h h1 h2 ⊢
   by_cases os:e.op=14∨e.op=15
   ·rw [if_pos os] at h h1 h2 ⊢
    by_cases q:bitsE ta=0
    ·obtain⟨t1,t2⟩:=bitsE_zero q
     rw [if_neg (by simpa using q)]
     exact ka t1 t2
    ·rw [if_pos q] at h;exact absurd h q
   rw [if_neg os] at h h1 h2 ⊢
   cases l with
   | nil =>
    simp only [List.map_nil] at h h1 h2 ⊢
    unfold singleT at h h1 h2 ⊢
    by_cases o9:e.op=9
    ·rw [if_pos o9] at h h1
     by_cases q:ta.tr=true
     ·rw [if_pos q] at h1;rw [q] at h1;cases h1
     ·rw [if_neg q] at h;simp at h
    rw [if_neg o9] at h h1 h2 ⊢
    by_cases o10:e.op=10
    ·rw [if_pos o10] at h h1 h2 ⊢
     by_cases q:bitsE ta=0
     ·rw [if_neg (by simpa using q)] at h h1 h2 ⊢
      by_cases q2:ta.w≤e.hi
      ·rw [if_pos q2] at h;simp at h
      ·rw [if_neg q2]
       unfold endB xSlice at hend
       rw [o10] at hend
       simp only [beq_self_eq_true,if_true,Bool.and_eq_true,decide_eq_true_eq] at hend
       simp only [tyW]
       omega
     ·rw [if_pos q] at h;exact absurd h q
    rw [if_neg o10] at h h1 h2 ⊢
    by_cases q:ta.tr=true
    ·rw [if_pos q] at h;simp at h
    ·rw [if_neg q] at h1 h2 ⊢
     exact ka h1 h2
   | cons b l =>
    simp only [List.map_cons] at h h1 h2 ⊢
    have kb:=ih b (by rw [hl];exact List.mem_cons_of_mem _ (List.mem_cons_self ..)) n (hkid b (by rw [hl];exact List.mem_cons_of_mem _ (List.mem_cons_self ..)))
    obtain⟨⟨rb,tb⟩,hrb⟩:∃ r,b.ty p act=r:=⟨_,rfl⟩
    rw [hrb] at h h1 h2 kb ⊢
    simp only at h h1 h2 kb ⊢
    by_cases r1:rb=0
    ·subst r1
     have kb:=kb rfl
     simp only [not_true_eq_false,if_false] at h h1 h2 ⊢
     unfold pairT at h h1 h2 ⊢
     by_cases o25:e.op=25∨e.op=26
     ·rw [if_pos o25] at h h1 h2
      by_cases q:(ta.tr && tb.tr)=true
      ·rw [if_pos q] at h1
       have q1:ta.tr=true:=by simp at q;exact q.1
       rw [q1] at h1;cases h1
      ·rw [if_neg q] at h;simp at h
     rw [if_neg o25] at h h1 h2 ⊢
     by_cases o11:e.op=11
     ·rw [if_pos o11] at h h1 h2 ⊢
      by_cases q:bitsE ta=0
      ·rw [if_neg (by simpa using q)] at h h1 h2 ⊢
       by_cases q2:bitsE tb=0
       ·rw [if_neg (by simpa using q2)] at h h1 h2 ⊢
        by_cases q3:128 < ta.w+tb.w
        ·rw [if_pos q3] at h;simp at h
        ·rw [if_neg q3]
         obtain⟨t1,t2⟩:=bitsE_zero q
         obtain⟨t3,t4⟩:=bitsE_zero q2
         have:=ka t1 t2
         have:=kb t3 t4
         simp only [tyW]
         omega
       ·rw [if_pos q2] at h;exact absurd h q2
      ·rw [if_pos q] at h;exact absurd h q
     rw [if_neg o11] at h h1 h2 ⊢
     by_cases q:(sidesT a.free b.free ta tb).1=0
     ·rw [if_neg (by simpa using q)] at h1 h2 ⊢
      obtain⟨s1,s2,s3,s4⟩:=sides_w q
      by_cases o19:19≤e.op∧e.op≤24
      ·rw [if_pos o19] at h1;cases h1
      ·rw [if_neg o19]
       show 1≤(sidesT a.free b.free ta tb).2∧(sidesT a.free b.free ta tb).2≤128
       rcases s4 with ⟨f1,f2⟩ | ⟨f1,f2⟩
       ·rw [f2];exact kb s2 (by cases hb:tb.fr with | false=>rfl | true=>exact absurd ⟨f1,hb⟩ s3)
       ·rw [f2];exact ka s1 f1
     ·rw [if_pos q] at h;exact absurd h q
    ·rw [if_pos (by simpa using r1)] at h;exact absurd h r1
  ·rw [if_pos (by simpa using r0)] at h;exact absurd h r0) e
/-- An error that a check gives up with. -/
abbrev gaveE (e:Int):Ending:=.panicked [{ v:=.iface 33 (.int .i64 e),recovered:=false }]
/-- Called with these in whatever world that has more than this one, it ends so, in memory of its own. -/
abbrev KpE (P:Program) (w:World) (f:FuncId) (args:Array Value) (E:Ending):Prop:=∀ y,Calls P f args (plus w y) fun e w'=>e=E∧∃ x,w'=plus (plus w y) x
theorem KpE.up {P:Program} {w:World} {f:FuncId} {args:Array Value} {E:Ending} (h:KpE P w f args E) (z:Ext):KpE P (plus w z) f args E:=fun y=>by
 rw [plus_plus];exact h _
theorem kpE_at {P:Program} {V W:World} {z:Ext} {f:FuncId} {args:Array Value} {E:Ending} (hz:W=plus V z) (h:KpE P V f args E):∀ y,Calls P f args (plus W y) fun e w'=>e=E∧∃ x,w'=plus W x:=fun y=>by
 subst hz
 exact ((h.up z) y).mono fun e w' ⟨he,x,hx⟩=>⟨he,_,hx.trans (plus_plus _ _ _)⟩
set_option maxRecDepth 100000 in
set_option maxHeartbeats 8000000 in
theorem t_need (b:Bool) (e:Int) (w:World):KpE Tryz.prog w 102 #[.bool b,.int .i64 e] (if b=true then .returned (.tuple #[]) else gaveE e):=by
 intro y0
 obtain⟨V,hV⟩:∃ V,plus w y0=V:=⟨_,rfl⟩
 rw [hV]
 clear hV
 cases b with
 | true =>
  rw [if_pos rfl]
  go_enter Tryz.func102,Tryz.ntmps102
  go_wp2
  go_end0
  exact⟨rfl,_,(plus_self _).symm⟩
 | false =>
  rw [if_neg (by decide)]
  go_enter Tryz.func102,Tryz.ntmps102
  go_wp2
  exact⟨rfl,rfl,_,(plus_self _).symm⟩
theorem need_yes (w:World) (e:Int):KpE Tryz.prog w 102 #[.bool true,.int .i64 e] (.returned (.tuple #[])):=t_need true e w
theorem need_no (w:World) (e:Int):KpE Tryz.prog w 102 #[.bool false,.int .i64 e] (gaveE e):=t_need false e w
set_option maxRecDepth 100000 in
set_option maxHeartbeats 8000000 in
theorem t_width (t:Ty) (w:World):KpE Tryz.prog w 49 #[t.v] (if bitsE t=0 then .returned (.int .i64 t.w) else gaveE (bitsE t)):=by
 intro y0
 obtain⟨V,hV⟩:∃ V,plus w y0=V:=⟨_,rfl⟩
 rw [hV]
 clear hV
 obtain⟨tw,tt,tf⟩:=t
 simp only [Ty.v]
 cases tt with
 | true =>
  rw [show bitsE ⟨tw,true,tf⟩=9 from rfl,if_neg (by decide)]
  go_enter Tryz.func49,Tryz.ntmps49
  go_wp2_with fail
  obtain⟨W,yy,hW,⟨z,hz⟩,ca⟩:=box1n V _ 75
  rw [hW]
  refine (need_no W 9 yy).mono ?_
  rintro r w' ⟨rfl,x,rfl⟩
  go_wp2
  exact⟨rfl,rfl,by rw [plus_plus,plus_plus];exact⟨_,rfl⟩⟩
 | false =>
  cases tf with
  | true =>
   rw [show bitsE ⟨tw,false,true⟩=10 from rfl,if_neg (by decide)]
   go_enter Tryz.func49,Tryz.ntmps49
   go_wp2_with fail
   obtain⟨W,yy,hW,⟨z,hz⟩,ca⟩:=box1n V _ 75
   rw [hW]
   have c2:=ca 2 _ rfl
   have hz':=Lib.hid hz
   refine (need_yes W 9 yy).mono ?_
   rintro r w' ⟨rfl,x,rfl⟩
   clear hW hz ca
   rw [plus_plus]
   go_wp2_with fail
   refine (need_no W 10 _).mono ?_
   rintro r w' ⟨rfl,x,rfl⟩
   go_wp2
   exact⟨rfl,rfl,by rw [hz'.out,plus_plus,plus_plus];exact⟨_,rfl⟩⟩
  | false =>
   rw [show bitsE ⟨tw,false,false⟩=0 from rfl,if_pos rfl]
   go_enter Tryz.func49,Tryz.ntmps49
   go_wp2_with fail
   obtain⟨W,yy,hW,⟨z,hz⟩,ca⟩:=box1n V _ 75
   rw [hW]
   have c0:=ca 0 _ rfl
   have c2:=ca 2 _ rfl
   have hz':=Lib.hid hz
   refine (need_yes W 9 yy).mono ?_
   rintro r w' ⟨rfl,x,rfl⟩
   clear hW hz ca
   rw [plus_plus]
   go_wp2_with fail
   refine (need_yes W 10 _).mono ?_
   rintro r w' ⟨rfl,x,rfl⟩
   rw [plus_plus]
   go_wp2
   go_ret
   exact⟨rfl,pp hz'.out⟩
theorem own1 (W:World) (o:Obj):∃ z,W.alloc o=plus W z:=plus_of_below ((Below.refl _ W).alloc (Nat.le_refl _) o)
set_option maxRecDepth 100000 in
set_option maxHeartbeats 8000000 in
theorem t_bits (k:Int) (w:World):Kp Tryz.prog w 48 #[.int .i64 k] (tyW k).v:=by
 intro y0
 obtain⟨V,hV⟩:∃ V,plus w y0=V:=⟨_,rfl⟩
 rw [hV]
 clear hV
 go_enter Tryz.func48,Tryz.ntmps48
 go_wp2
 have g0:(V.alloc (.cells #[.int .i64 k,.bool false,.bool false] 75)).cell? ⟨V.heap.size,0,none⟩=some (.int .i64 k):=cell_new V _ _ _ 0 rfl
 have g1:(V.alloc (.cells #[.int .i64 k,.bool false,.bool false] 75)).cell? ⟨V.heap.size,1,none⟩=some (.bool false):=cell_new V _ _ _ 1 rfl
 have g2:(V.alloc (.cells #[.int .i64 k,.bool false,.bool false] 75)).cell? ⟨V.heap.size,2,none⟩=some (.bool false):=cell_new V _ _ _ 2 rfl
 exact bodyPost_ret (v:=(tyW k).v) (by simp [Ty.v,tyW,results,Tryz.results48,go_sem,g0,g1,g2]) rfl ⟨rfl,own1 _ _⟩
set_option maxRecDepth 100000 in
set_option maxHeartbeats 8000000 in
theorem t_truth (w:World):Kp Tryz.prog w 127 #[] (Ty.v ⟨0,true,false⟩):=by
 intro y0
 obtain⟨V,hV⟩:∃ V,plus w y0=V:=⟨_,rfl⟩
 rw [hV]
 clear hV
 go_enter Tryz.func127,Tryz.ntmps127
 go_wp2
 have g0:(V.alloc (.cells #[.int .i64 0,.bool true,.bool false] 75)).cell? ⟨V.heap.size,0,none⟩=some (.int .i64 0):=cell_new V _ _ _ 0 rfl
 have g1:(V.alloc (.cells #[.int .i64 0,.bool true,.bool false] 75)).cell? ⟨V.heap.size,1,none⟩=some (.bool true):=cell_new V _ _ _ 1 rfl
 have g2:(V.alloc (.cells #[.int .i64 0,.bool true,.bool false] 75)).cell? ⟨V.heap.size,2,none⟩=some (.bool false):=cell_new V _ _ _ 2 rfl
 exact bodyPost_ret (v:=Ty.v ⟨0,true,false⟩) (by simp [Ty.v,results,Tryz.results127,go_sem,g0,g1,g2]) rfl ⟨rfl,own1 _ _⟩
mutual
/-- The literal at the end of signs. -/
def Ex.endL:Ex→Lt
 | .mk op lit _ _ _ _ _ _ l=>if op=1 then lit else Ex.endLs lit l
def Ex.endLs (d:Lt):List Ex→Lt
 | []=>d
 | x :: _=>x.endL
end
theorem Ex.endL_eq (e:Ex):e.endL=if e.op=1 then e.lit else Ex.endLs e.lit e.args:=by cases e;rw [Ex.endL];rfl
mutual
/-- How many signs. -/
def Ex.signs:Ex→Nat
 | .mk op _ _ _ _ _ _ _ l=>if op=1 then 0 else Ex.signss l
def Ex.signss:List Ex→Nat
 | []=>0
 | x :: _=>1+x.signs
end
theorem Ex.signs_eq (e:Ex):e.signs=if e.op=1 then 0 else Ex.signss e.args:=by cases e;rw [Ex.signs];rfl
/-- How far it is to the number, as memory has it. -/
def farTo (w:World):Nat→Addr→Nat
 | 0,_=>0
 | k+1,a=>match w.cell? a,w.cell? (a.add 8) with
  | some (.int _ op),some (.slice (some q) _ _)=>if op=1 then 0 else 1+farTo w k q
  | _,_=>0
theorem far_is:∀ (x:Ex) (w:World) (k:Nat) (a:Addr),x.In w→CellsAt w a x.cells→x.wt≤k→x.chain=true→farTo w k a=x.signs:=fun x=>Ex.ind (Q:=fun x=>∀ (w:World) (k:Nat) (a:Addr),x.In w→CellsAt w a x.cells→x.wt≤k→x.chain=true→farTo w k a=x.signs) (fun e ih w k a hin hc hk hch=>by
 cases k with
 | zero=>have:=e.wt_pos;omega
 | succ k =>
  have h0:=hc.c0 _ rfl
  have h8:w.cell? (a.add 8)=some (.slice e.p e.args.length e.cap):=hc 8 _ rfl
  rw [Ex.signs_eq]
  unfold farTo
  rw [h0,h8]
  rw [Ex.chain_eq] at hch
  by_cases o:e.op=1
  ·rw [if_pos o]
   cases e.p with
   | none=>rfl
   | some q=>simp [o]
  ·rw [if_neg o]
   have hch2:Ex.chains e.args=true:=by simpa [o] using hch
   cases hl:e.args with
   | nil=>rw [hl] at hch2;cases hch2
   | cons x l =>
    rw [hl] at hch2
    have hx:e.args[0]?=some x:=by rw [hl];rfl
    have hmem:x ∈ e.args:=by rw [hl];exact List.mem_cons_self ..
    obtain⟨_,_,_,_,_,_,_,_,_,hrow,hkids⟩:=hin
    obtain⟨q,hq,hcx⟩:=hrow 0 x hx
    rw [hq]
    have hwt:=Ex.wt_eq e
    have hle:=le_sum_of Ex.wt e.args x hmem
    have:=ih x hmem w k q (hkids x hmem) (by rw [Nat.zero_mul] at hcx;exact hcx) (by omega) hch2
    simp only [o,if_false]
    rw [this]
    rfl) x
theorem Ex.free_end:∀ e:Ex,e.chain=true→e.free=e.endL.n:=fun e=>Ex.ind (Q:=fun e=>e.chain=true→e.free=e.endL.n) (fun e ih h=>by
 rw [Ex.free_eq,Ex.endL_eq]
 rw [Ex.chain_eq] at h
 by_cases o:e.op=1
 ·rw [if_pos o,if_pos o]
 ·rw [if_neg o,if_neg o]
  have h2:Ex.chains e.args=true:=by simpa [o] using h
  cases hl:e.args with
  | nil=>rw [hl] at h2;cases h2
  | cons x l =>
   rw [hl] at h2
   exact ih x (by rw [hl];exact List.mem_cons_self ..) h2) e
theorem Ex.end_ok:∀ e:Ex,∀ w,e.In w→e.endL.Ok:=fun e=>Ex.ind (Q:=fun e=>∀ w,e.In w→e.endL.Ok) (fun e ih w h=>by
 rw [Ex.endL_eq]
 obtain⟨_,_,hlit,_,_,_,_,_,_,_,hkids⟩:=h
 by_cases o:e.op=1
 ·rw [if_pos o];exact hlit
 ·rw [if_neg o]
  cases hl:e.args with
  | nil=>exact hlit
  | cons x l=>exact ih x (by rw [hl];exact List.mem_cons_self ..) w (hkids x (by rw [hl];exact List.mem_cons_self ..))) e
theorem nine1 {X:World} {b:Nat} {cs:Array Value} {t:TypeId} (h:X.heap[b]?=some (.cells cs t (0,0))) (i:Nat) (u:Value) (cs':Array Value) (e:cs.setIfInBounds i u=cs'):(X.setCell ⟨b,i,none⟩ u).heap[b]?=some (.cells cs' t (0,0)):=by
 rw [heap_setCell_same X b i cs t u h,e]
theorem nine_set {W:World} {b:Nat} {t:TypeId} (c0 c1 c2 c3 c4 c5 c6 c7 c8 v0 v1 v2 v3 v4 v5 v6 v7 v8:Value) (h:W.heap[b]?=some (.cells #[c0,c1,c2,c3,c4,c5,c6,c7,c8] t (0,0))) :
  (((((((((W.setCell ⟨b,0,none⟩ v0).setCell ⟨b,1,none⟩ v1).setCell ⟨b,2,none⟩ v2).setCell ⟨b,3,none⟩ v3).setCell ⟨b,4,none⟩ v4).setCell ⟨b,5,none⟩ v5).setCell ⟨b,6,none⟩ v6).setCell ⟨b,7,none⟩ v7).setCell ⟨b,8,none⟩ v8).heap[b]?=some (.cells #[v0,v1,v2,v3,v4,v5,v6,v7,v8] t (0,0)):=by
 have h1:=nine1 h 0 v0 #[v0,c1,c2,c3,c4,c5,c6,c7,c8] rfl
 have h2:=nine1 h1 1 v1 #[v0,v1,c2,c3,c4,c5,c6,c7,c8] rfl
 have h3:=nine1 h2 2 v2 #[v0,v1,v2,c3,c4,c5,c6,c7,c8] rfl
 have h4:=nine1 h3 3 v3 #[v0,v1,v2,v3,c4,c5,c6,c7,c8] rfl
 have h5:=nine1 h4 4 v4 #[v0,v1,v2,v3,v4,c5,c6,c7,c8] rfl
 have h6:=nine1 h5 5 v5 #[v0,v1,v2,v3,v4,v5,c6,c7,c8] rfl
 have h7:=nine1 h6 6 v6 #[v0,v1,v2,v3,v4,v5,v6,c7,c8] rfl
 have h8:=nine1 h7 7 v7 #[v0,v1,v2,v3,v4,v5,v6,v7,c8] rfl
 have h9:=nine1 h8 8 v8 #[v0,v1,v2,v3,v4,v5,v6,v7,v8] rfl
 exact h9
theorem nine_other (W:World) (b:Nat) (v0 v1 v2 v3 v4 v5 v6 v7 v8:Value) (k:Nat) (hk:k≠b):(((((((((W.setCell ⟨b,0,none⟩ v0).setCell ⟨b,1,none⟩ v1).setCell ⟨b,2,none⟩ v2).setCell ⟨b,3,none⟩ v3).setCell ⟨b,4,none⟩ v4).setCell ⟨b,5,none⟩ v5).setCell ⟨b,6,none⟩ v6).setCell ⟨b,7,none⟩ v7).setCell ⟨b,8,none⟩ v8).heap[k]?=W.heap[k]?:=by
 rw [Below.heap_setCell _ _ _ _ hk,Below.heap_setCell _ _ _ _ hk,Below.heap_setCell _ _ _ _ hk,Below.heap_setCell _ _ _ _ hk,Below.heap_setCell _ _ _ _ hk,Below.heap_setCell _ _ _ _ hk,Below.heap_setCell _ _ _ _ hk,Below.heap_setCell _ _ _ _ hk,Below.heap_setCell _ _ _ _ hk]
theorem nine_below {V W:World} {B b:Nat} (v0 v1 v2 v3 v4 v5 v6 v7 v8:Value) (hB:Below B V W) (hb:B≤b):Below B V (((((((((W.setCell ⟨b,0,none⟩ v0).setCell ⟨b,1,none⟩ v1).setCell ⟨b,2,none⟩ v2).setCell ⟨b,3,none⟩ v3).setCell ⟨b,4,none⟩ v4).setCell ⟨b,5,none⟩ v5).setCell ⟨b,6,none⟩ v6).setCell ⟨b,7,none⟩ v7).setCell ⟨b,8,none⟩ v8):=(Below.setCell (Below.setCell (Below.setCell (Below.setCell (Below.setCell (Below.setCell (Below.setCell (Below.setCell (Below.setCell hB (show B≤b from hb) v0) (show B≤b from hb) v1) (show B≤b from hb) v2) (show B≤b from hb) v3) (show B≤b from hb) v4) (show B≤b from hb) v5) (show B≤b from hb) v6) (show B≤b from hb) v7) (show B≤b from hb) v8)
theorem nine_size (W:World) (b:Nat) (v0 v1 v2 v3 v4 v5 v6 v7 v8:Value):(((((((((W.setCell ⟨b,0,none⟩ v0).setCell ⟨b,1,none⟩ v1).setCell ⟨b,2,none⟩ v2).setCell ⟨b,3,none⟩ v3).setCell ⟨b,4,none⟩ v4).setCell ⟨b,5,none⟩ v5).setCell ⟨b,6,none⟩ v6).setCell ⟨b,7,none⟩ v7).setCell ⟨b,8,none⟩ v8).heap.size=W.heap.size:=by
 simp only [World.size_setCell]
/-- While freeNumber goes on. -/
structure FrI (V:World) (b:Nat) (W:World) (x:Ex):Prop where
 below:Below b V W
 size:b+2≤W.heap.size
 box:W.heap[b]?=some (.cells x.cells.toArray 45 (0,0))
 res:W.heap[b+1]?=some (.cells #[.int .u64 0,.int .u64 0] 40 (0,0))
theorem cell_hp {W:World} {b:Nat} {cs:Array Value} {t:TypeId} {fr:Nat × Nat} (h:W.heap[b]?=some (.cells cs t fr)) (j:Nat) (u:Value) (hj:cs[j]?=some u):W.cell? ⟨b,j,none⟩=some u:=by simp [World.cell?,h,hj]
theorem FrI.at {V:World} {b:Nat} {W:World} {x:Ex} (h:FrI V b W x):CellsAt W ⟨b,0,none⟩ x.cells:=fun j v hj=>by
 rw [Addr.add_lit,Nat.zero_add]
 exact cell_hp h.box j v (by simpa using hj)
theorem fr_start (V:World) (e:Ex) (cs:Array Value) (h1:cs.toList=e.cells):∃ W,(V.alloc (.cells cs 45)).alloc (.cells #[.int .u64 0,.int .u64 0] 40)=W∧FrI V V.heap.size W e:=by
 have s1:(V.alloc (.cells cs 45)).heap.size=V.heap.size+1:=by simp
 refine⟨_,rfl,((Below.refl _ V).alloc (Nat.le_refl _) _).alloc (by omega) _,by simp,?_,?_⟩
 ·rw [Below.heap_alloc _ _ _ (by omega),← h1]
  exact heap_alloc_new V _
 ·rw [← s1];exact heap_alloc_new _ _
theorem fr_far {V:World} {b N:Nat} {W:World} {x:Ex} (hb:V.heap.size=b) (h:FrI V b W x) (hin:x.In V) (hw:x.wt≤N) (hc:x.chain=true):farTo W N ⟨b,0,none⟩=x.signs:=by
 subst hb
 obtain⟨z,hz⟩:=plus_of_below h.below
 exact far_is x W N _ (by rw [hz];exact hin.plus z) h.at hw hc
def numV (t:Lt):Value:=.agg #[.int .u64 t.h,.int .u64 t.l]
set_option maxRecDepth 100000 in
set_option maxHeartbeats 8000000 in
theorem t_free (e:Ex) (w:World) (hin:e.In w) (hch:e.chain=true):Kp Tryz.prog w 202 #[e.val] (numV e.endL):=by
 intro y0
 have hin:=hin.plus y0
 obtain⟨V,hV⟩:∃ V,plus w y0=V:=⟨_,rfl⟩
 rw [hV] at hin ⊢
 clear hV
 obtain⟨b,hb⟩:∃ b,V.heap.size=b:=⟨_,rfl⟩
 obtain⟨N,hN⟩:∃ N,e.wt=N:=⟨_,rfl⟩
 obtain⟨L,hL⟩:∃ L,e.endL=L:=⟨_,rfl⟩
 rw [hL]
 have h0:Hid (e.In V∧e.chain=true∧e.endL=L∧e.wt≤N):=Lib.hid ⟨hin,hch,hL,by omega⟩
 have hb':=Lib.hid hb
 clear hin hch hL hN hb
 obtain⟨op,⟨lw,lh,ll⟩,hd,nm,eh,el,ep,ec,eargs⟩:=e
 show Calls Tryz.prog 202 #[.agg #[.int .u8 op,.int .i64 lw,.int .u64 lh,.int .u64 ll,.string hd,.string nm,.int .i64 eh,.int .i64 el,.slice ep eargs.length ec]] V _
 go_enter Tryz.func202,Tryz.ntmps202
 go_wp2_with fail
 obtain⟨W,hW,hI⟩:=fr_start V (.mk op ⟨lw,lh,ll⟩ hd nm eh el ep ec eargs) #[.int .u8 op,.int .i64 lw,.int .u64 lh,.int .u64 ll,.string hd,.string nm,.int .i64 eh,.int .i64 el,.slice ep eargs.length ec] rfl
 rw [hW]
 rw [hb'.out] at hI ⊢
 have hI':=Lib.hid hI
 clear hW hI
 go_loopw [3] (fun _ wr=>∃ x:Ex,Hid (x.In V∧x.chain=true∧x.endL=L∧x.wt≤N)∧Hid (FrI V b wr x)) (fun _ wr=>farTo wr N ⟨b,0,none⟩)
 case atStart=>exact⟨_,h0,hI'⟩
 case round =>
  clear h0 hI'
  obtain⟨x,hx,hF⟩:=hrel
  have hat:=hF.out.at
  obtain⟨z,hz⟩:=plus_of_below (hb'.out.symm ▸ hF.out.below)
  have hfar:=Lib.hid (fr_far hb'.out hF.out hx.out.1 hx.out.2.2.2 hx.out.2.1)
  have hsg:=Ex.signs_eq x
  have hel:=Ex.endL_eq x
  have hce:=Ex.chain_eq x
  rw [hx.out.2.1] at hce
  rw [hx.out.2.2.1] at hel
  obtain⟨_,_,_,_,_,_,_,_,_,hrow,hkids⟩:=hx.out.1
  have hwt:=Ex.wt_eq x
  have hxw:=hx.out.2.2.2
  have d0:=hat.c0 _ rfl
  have d1:wr.cell? ⟨b,1,none⟩=some (.int .i64 x.lit.w):=cell_hp hF.out.box 1 _ rfl
  have d2:wr.cell? ⟨b,2,none⟩=some (.int .u64 x.lit.h):=cell_hp hF.out.box 2 _ rfl
  have d3:wr.cell? ⟨b,3,none⟩=some (.int .u64 x.lit.l):=cell_hp hF.out.box 3 _ rfl
  have d4:wr.cell? ⟨b,4,none⟩=some (.string x.head):=cell_hp hF.out.box 4 _ rfl
  have d5:wr.cell? ⟨b,5,none⟩=some (.string x.name):=cell_hp hF.out.box 5 _ rfl
  have d6:wr.cell? ⟨b,6,none⟩=some (.int .i64 x.hi):=cell_hp hF.out.box 6 _ rfl
  have d7:wr.cell? ⟨b,7,none⟩=some (.int .i64 x.lo):=cell_hp hF.out.box 7 _ rfl
  have d8:wr.cell? ⟨b,8,none⟩=some (.slice x.p x.args.length x.cap):=cell_hp hF.out.box 8 _ rfl
  by_cases o:x.op=1
  ·have e0:=cell_hp hF.out.res 0 _ rfl
   have e1:=cell_hp hF.out.res 1 _ rfl
   have ff:=fun j=>frozen_of_row wr (b+1) j _ _ hF.out.res
   rw [if_pos o] at hel
   have o2:(x.op == 1)=true:=by simpa using o
   have hel':=Lib.hid hel
   clear hsg hce hel hrow hkids hwt hxw hat hz
   rw [o] at d0
   go_wp2
   have r1:=nine1 hF.out.res 0 (.int .u64 x.lit.h) #[.int .u64 x.lit.h,.int .u64 0] rfl
   have r2:=nine1 r1 1 (.int .u64 x.lit.l) #[.int .u64 x.lit.h,.int .u64 x.lit.l] rfl
   have g0:=cell_hp r2 0 (.int .u64 x.lit.h) rfl
   have g1:=cell_hp r2 1 (.int .u64 x.lit.l) rfl
   have hbel:Below b V ((wr.setCell ⟨b+1,0,none⟩ (.int .u64 x.lit.h)).setCell ⟨b+1,1,none⟩ (.int .u64 x.lit.l)):=(Below.setCell (hF.out.below.setCell (show b≤b+1 by omega) _) (show b≤b+1 by omega) _)
   clear r1 r2
   generalize (wr.setCell ⟨b+1,0,none⟩ (.int .u64 x.lit.h)).setCell ⟨b+1,1,none⟩ (.int .u64 x.lit.l)=X at g0 g1 hbel ⊢
   refine bodyPost_ret (v:=numV x.lit) (by simp [numV,results,Tryz.results202,go_sem,g0,g1]) rfl ⟨by rw [hel'.out],plus_of_below (hb'.out.symm ▸ hbel)⟩
  ·have o2:(x.op == 1)=false:=by simpa using o
   have o3:(x.op != 1)=true:=by simpa using o
   rw [if_neg o] at hsg hel
   rw [o2,Bool.false_or] at hce
   cases hl:x.args with
   | nil=>rw [hl] at hce;cases hce
   | cons y ys =>
    have hy0:x.args[0]?=some y:=by rw [hl];rfl
    have hym:y ∈ x.args:=by rw [hl];exact List.mem_cons_self ..
    obtain⟨q,hq,hcy⟩:=hrow 0 y hy0
    have hyin:=hkids y hym
    have hle:=le_sum_of Ex.wt x.args y hym
    rw [Nat.zero_mul] at hcy
    replace hcy:CellsAt V q y.cells:=hcy
    have hcw:=cells_up hz hcy
    have hlen:x.args.length=ys.length+1:=by rw [hl];rfl
    rw [hl] at hsg hel hce
    replace hsg:x.signs=1+y.signs:=hsg
    replace hel:L=y.endL:=hel
    replace hce:true=y.chain:=hce
    have hy:Hid (y.In V∧y.chain=true∧y.endL=L∧y.wt≤N):=Lib.hid ⟨hyin,hce.symm,hel.symm,by omega⟩
    have f0:wr.cell? q=some (.int .u8 y.op):=hcw.c0 _ rfl
    have f1:=hcw.cs 0 _ rfl
    have f2:=hcw.cs 1 _ rfl
    have f3:=hcw.cs 2 _ rfl
    have f4:=hcw.cs 3 _ rfl
    have f5:=hcw.cs 4 _ rfl
    have f6:=hcw.cs 5 _ rfl
    have f7:=hcw.cs 6 _ rfl
    have f8:=hcw.cs 7 _ rfl
    have ff:=fun j=>frozen_of_row wr b j _ _ hF.out.box
    have hsg':=Lib.hid hsg
    have hnext:FrI V b (((((((((wr.setCell ⟨b,0,none⟩ (.int .u8 y.op)).setCell ⟨b,1,none⟩ (.int .i64 y.lit.w)).setCell ⟨b,2,none⟩ (.int .u64 y.lit.h)).setCell ⟨b,3,none⟩ (.int .u64 y.lit.l)).setCell ⟨b,4,none⟩ (.string y.head)).setCell ⟨b,5,none⟩ (.string y.name)).setCell ⟨b,6,none⟩ (.int .i64 y.hi)).setCell ⟨b,7,none⟩ (.int .i64 y.lo)).setCell ⟨b,8,none⟩ (.slice y.p y.args.length y.cap)) y:=⟨nine_below _ _ _ _ _ _ _ _ _ hF.out.below (Nat.le_refl b),by rw [nine_size];exact hF.out.size,nine_set _ _ _ _ _ _ _ _ _ _ _ _ _ _ _ _ _ _ hF.out.box,by rw [nine_other _ _ _ _ _ _ _ _ _ _ _ _ (by omega)];exact hF.out.res⟩
    have hnext':=Lib.hid hnext
    rw [hq,hlen] at d8
    have hl1:(0:Int) < ((ys.length+1:Nat):Int):=by omega
    obtain⟨M,hM⟩:∃ M,ys.length+1=M:=⟨_,rfl⟩
    rw [hM] at d8 hl1
    have hl2:0 < M:=by omega
    clear hsg hce hel hrow hkids hwt hxw hat hz hl hy0 hym hcy hcw hlen hle hyin hnext hM hq hx
    go_wp2
    refine⟨⟨y,hy,hnext'⟩,?_⟩
    rw [hfar.out,hsg'.out,fr_far hb'.out hnext'.out hy.out.1 hy.out.2.2.2 hy.out.2.1]
    omega
end Go.Proofs.YtobhijbncchpiaaGreat
