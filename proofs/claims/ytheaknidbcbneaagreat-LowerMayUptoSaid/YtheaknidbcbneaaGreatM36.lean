/-
  WHAT IS PROVED HERE: a part of the proof (made narrower and merged by program; the parts: Loc Lpn).
-/
import Derived.Test.YtheaknidbcbneaaGreatM35
set_option maxRecDepth 100000
set_option maxHeartbeats 8000000
set_option linter.all false
namespace Go.Proofs.YtheaknidbcbneaaGreat
open Go.RowKit Go.Proofs.Tryz
open Below renaming refl→Zc
open Bool renaming true_and→Ze
open Ending renaming returned→Zf
open Lib renaming hid→Zg
open List renaming getElem?_eq_getElem→Zi,mem_cons_self→Zk,mem_of_getElem?→Zl
open Nat renaming le_refl→Zp,zero_le→Zq
open Go.Proofs.Tryz renaming prog→Zr
open Value renaming bool→Zs,int→Zt
inductive Xy (g:List (List Nat)):Nat→Nat→Prop where
 | one {a b:Nat} (h:b∈g.getD a []):Xy g a b
 | more {a b c:Nat} (h:Xy g a b) (k:c∈g.getD b []):Xy g a c
def Uz(g:List (List Nat)):Prop:=∀k,∀m∈g.getD k [],m<g.length
def Vk(g:List (List Nat))(S:List Bool)(i:Nat):Bool:=(g.getD i []).all fun t=>S.getD t false
def Xe(g:List (List Nat))(S:List Bool)(k:Nat):List Bool:=(List.range k).foldl (fun S i=>S.set i (Vk g S i)) S
def Ub(g:List (List Nat))(S:List Bool):List Bool:=Xe g S g.length
def YB(g:List (List Nat)):Nat→List Bool
 | 0=>List.replicate g.length false
 | k+1=>Ub g (YB g k)
def Vv(g:List (List Nat)):Bool:=(YB g g.length).all id
theorem UT(g:List (List Nat))(S:List Bool)(k:Nat):Xe g S (k+1)=(Xe g S k).set k (Vk g (Xe g S k) k):=by
 simp[Xe,List.range_succ,List.foldl_append]
theorem Qc(g:List (List Nat))(S:List Bool)(k:Nat):(Xe g S k).length=S.length:=by
 induction k with
 | zero=>simp[Xe]
 | succ k ih=>rw[UT,List.length_set,ih]
theorem Tt(g:List (List Nat))(k:Nat):(YB g k).length=g.length:=by
 induction k with
 | zero=>simp[YB]
 | succ k ih=>rw[YB,Ub,Qc,ih]
structure TI (g:List (List Nat)) (U:Nat→Prop):Prop where
 lt:∀u,U u→u<g.length
 on:∀u,U u→∃k,k∈g.getD u []∧U k
theorem TY(S:List Bool)(i j:Nat)(b:Bool):(S.set i b).getD j false=if i=j∧i<S.length then b else S.getD j false:=by
 simp only[List.getD_eq_getElem?_getD,List.getElem?_set];by_cases h:i=j
 ·subst h
  by_cases hl:i<S.length
  ·simp[hl]
  ·simp[hl]
 ·simp[h]
theorem GJ{g:List (List Nat)}{U:Nat→Prop}(hU:TI g U){S:List Bool}(h:∀u,U u→S.getD u false=false)(k:Nat):∀u,U u→(Xe g S k).getD u false=false:=by
 induction k with
 | zero=>simpa [Xe]using h
 | succ k ih =>
  intro u hu;rw[UT,TY];split
  ·rename_i hk
   obtain⟨rfl,_⟩:=hk;obtain⟨t,ht,hUt⟩:=hU.on k hu;unfold Vk;rw[List.all_eq_false];exact⟨t,ht,by rw[ih t hUt];simp⟩
  ·exact ih u hu
theorem GH{g:List (List Nat)}{U:Nat→Prop}(hU:TI g U){u:Nat}(hu:U u):Vv g=false:=by
 have h:∀k,∀u,U u→(YB g k).getD u false=false:=by
  intro k;induction k with
  | zero=>intro u _;simp only[YB,List.getD_eq_getElem?_getD,List.getElem?_replicate];split <;> rfl
  | succ k ih=>exact GJ hU ih g.length
 unfold Vv;rw[List.all_eq_false];have hl:=hU.lt u hu;have h1:=h g.length u hu;have Zz:u<(YB g g.length).length:=by rw[Tt];exact hl
 refine⟨(YB g g.length)[u],List.getElem_mem Zz,?_⟩;rw[List.getD_eq_getElem?_getD,Zi Zz]at h1;simp only[Option.getD_some]at h1;simp[h1]
def Le(S T:List Bool):Prop:=∀u,S.getD u false=true→T.getD u false=true
theorem S3{g:List (List Nat)}{S T:List Bool}(h:Le S T){i:Nat}(he:Vk g S i=true):Vk g T i=true:=by
 unfold Vk at *;rw[List.all_eq_true]at *;exact fun x hx=>h x (he x hx)
theorem Hk{g:List (List Nat)}{S T:List Bool}(hl:S.length=T.length)(h:Le S T)(k:Nat):Le (Xe g S k) (Xe g T k):=by
 induction k with
 | zero=>simpa [Xe]using h
 | succ k ih =>
  intro u hu;rw[UT,TY]at *;rw[Qc]at *;rw[←hl];split at hu
  ·rename_i hk
   rw[if_pos hk];exact S3 ih hu
  ·rename_i hk
   rw[if_neg hk];exact ih u hu
theorem Le.trans{S T U:List Bool}(a:Le S T)(b:Le T U):Le S U:=fun u h=>b u (a u h)
theorem Hm(g:List (List Nat))(k:Nat):Le (YB g k) (YB g (k+1)):=by
 induction k with
 | zero =>
  intro u hu;simp only[YB,List.getD_eq_getElem?_getD,List.getElem?_replicate]at hu;split at hu <;> simp at hu
 | succ k ih=>exact Hk (by rw[Tt,Tt]) ih g.length
def VQ(S:List Bool):Nat:=S.countP fun b=>!b
theorem PD:∀{S T:List Bool},S.length=T.length→Le S T→VQ T≤VQ S∧(VQ T=VQ S→S=T)
 | [],[],_,_=>by simp[VQ]
 | [],_ :: _,h,_=>by simp at h
 | _ :: _,[],h,_=>by simp at h
 | a :: S,b :: T,hl,h=>by
  have h0:=h 0;have ih:=PD (S:=S) (T:=T) (by simpa using hl) (fun u hu=>by simpa using h (u+1) (by simpa using hu));simp only[List.getD_cons_zero]at h0;cases a <;> cases b <;> simp_all [VQ] <;> omega
theorem Oe(g:List (List Nat)):∀k,VQ (YB g k)+k≤g.length∨Ub g (YB g k)=YB g k
 | 0=>.inl (by simp[YB,VQ,List.countP_replicate])
 | k+1=>by
  have WM:=PD (by rw[Tt,Tt]) (Hm g k);rcases Oe g k with h|h
  ·by_cases he:VQ (YB g (k+1))=VQ (YB g k)
   ·right
    have h1:=WM.2 he;show Ub g (YB g (k+1))=_
    rw[←h1,h1];show Ub g (YB g (k+1))=YB g (k+1)
    conv=>lhs;rw[←h1]
    rfl
   ·left;have:=WM.1;omega
  ·right
   show Ub g (Ub g (YB g k))=Ub g (YB g k)
   rw[h,h]
theorem M6{g:List (List Nat)}(hg:Uz g){S:List Bool}(hl:S.length=g.length)(hfix:Ub g S=S)(WM:∀k,Le S (Xe g S k)):TI g fun u=>u<g.length∧S.getD u false=false:=by
 refine⟨fun u h=>h.1,fun u h=>?_⟩;obtain⟨hu,hS⟩:=h;-- behind its own turn the node stays as it is
 have Ve:∀k,u<k→k≤g.length→(Xe g S k).getD u false=Vk g (Xe g S u) u:=by
  intro k;induction k with
  | zero=>intro h;omega
  | succ k ih =>
   intro h hk;rw[UT,TY,Qc];by_cases e:k=u
   ·subst e
    rw[if_pos ⟨rfl,by omega⟩]
   ·rw[if_neg (fun c=>e c.1)]
    exact ih (by omega) (by omega)
 have h1:=Ve g.length hu (Zp _);have h2:Xe g S g.length=S:=hfix;rw[h2,hS]at h1;have h3:=h1.symm;unfold Vk at h3;rw[List.all_eq_false]at h3;obtain⟨t,ht,hn⟩:=h3;refine⟨t,ht,hg u t ht,?_⟩;have h4:¬S.getD t false=true:=fun c=>hn (WM u t c);simpa using h4
theorem Hl{g:List (List Nat)}{S:List Bool}(h:∀i,S.getD i false=true→Vk g S i=true)(k:Nat):Le S (Xe g S k):=by
 induction k with
 | zero=>intro u hu;simpa [Xe]using hu
 | succ k ih =>
  intro u hu;rw[UT,TY];split
  ·rename_i hk
   obtain⟨rfl,_⟩:=hk;exact S3 ih (h _ hu)
  ·exact ih u hu
theorem OK(g:List (List Nat)):∀k,∀i,(YB g k).getD i false=true→Vk g (YB g k) i=true
 | 0=>fun i hi=>by
  simp only[YB,List.getD_eq_getElem?_getD,List.getElem?_replicate]at hi;split at hi <;> simp at hi
 | k+1=>by
  -- along a pass: what is shown by now ends by what is shown by now
  have key:∀j,∀i,(Xe g (YB g k) j).getD i false=true→Vk g (Xe g (YB g k) j) i=true:=by
   intro j;induction j with
   | zero=>simpa [Xe]using OK g k
   | succ j ih =>
    intro i hi;have hup:Le (Xe g (YB g k) j) (Xe g (YB g k) (j+1)):=by
     intro u hu;rw[UT,TY];split
     ·rename_i hk
      obtain⟨rfl,_⟩:=hk;exact ih _ hu
     ·exact hu
    rw[UT,TY]at hi;split at hi
    ·rename_i hk
     obtain⟨rfl,_⟩:=hk;exact S3 hup hi
    ·exact S3 hup (ih i hi)
  exact key g.length
theorem Iv{g:List (List Nat)}(hg:Uz g)(h:Vv g=false):∃U:Nat→Prop,TI g U∧∃u,U u:=by
 unfold Vv at h;rw[List.all_eq_false]at h;obtain⟨b,hb,hnb⟩:=h;obtain⟨u,hu,rfl⟩:=List.mem_iff_getElem.1 hb;have hul:u<g.length:=by rw[Tt]at hu;exact hu
 have hfix:Ub g (YB g g.length)=YB g g.length:=by
  rcases Oe g g.length with h|h
  ·exfalso
   have:0<VQ (YB g g.length):=by
    unfold VQ;rw[List.countP_pos_iff];exact⟨_,hb,by simpa using hnb⟩
   omega
  ·exact h
 refine⟨_,M6 hg (Tt g _) hfix (fun k=>Hl (OK g g.length) k),u,hul,?_⟩;rw[List.getD_eq_getElem?_getD,Zi hu];simpa using hnb
def Wp(i:Nat):List Nat→List Nat × List Nat→Option (List Nat × List Nat)
 | [],s=>some s
 | t :: l,s=>if t=i then none else if t∈s.1 then Wp i l s else Wp i l (s.1++[t],s.2++[t])
def WR(g:List (List Nat))(i:Nat):List Nat→List Nat × List Nat→Option (List Nat × List Nat)
 | [],s=>some s
 | v :: l,s=>(Wp i (g.getD v []) s).bind fun s'=>WR g i l s'
theorem Qq{i:Nat}:∀(l:List Nat) (s s':List Nat × List Nat),Wp i l s=some s' →
  ∃new:List Nat,s'=(s.1++new,s.2++new)∧(∀t∈l,t≠i∧t∈s'.1)∧(∀t∈new,t∈l)∧(s.1.Nodup→s'.1.Nodup)∧(i ∉ s.1→i ∉ s'.1)
 | [],s,s',h=>by
  simp only[Wp,Option.some.injEq]at h;subst h;exact⟨[],by simp,by simp,by simp,id,id⟩
 | t :: l,s,s',h=>by
  unfold Wp at h;split at h
  ·cases h
  ·rename_i hti
   split at h
   ·rename_i ZQ
    obtain⟨new,rfl,h2,h3,h4,h5⟩:=Qq l s s' h;refine⟨new,rfl,?_,fun x hx=>List.mem_cons_of_mem _ (h3 x hx),h4,h5⟩;intro x hx;rcases List.mem_cons.1 hx with rfl|hx
    ·exact⟨hti,List.mem_append_left _ ZQ⟩
    ·exact h2 x hx
   ·rename_i ZQ
    obtain⟨new,rfl,h2,h3,h4,h5⟩:=Qq l _ s' h;refine⟨t :: new,by simp,?_,?_,?_,?_⟩
    ·intro x hx
     rcases List.mem_cons.1 hx with rfl|hx
     ·exact⟨hti,by simp⟩
     ·exact h2 x hx
    ·intro x hx
     rcases List.mem_cons.1 hx with rfl|hx
     ·exact Zk
     ·exact List.mem_cons_of_mem _ (h3 x hx)
    ·intro hd
     apply h4;rw[List.nodup_append];exact⟨hd,by simp,fun a ha b hb=>by simp at hb;subst hb;exact fun e=>ZQ (e▸ha)⟩
    ·intro hi
     apply h5;simp only[List.mem_append,List.mem_singleton,not_or];exact⟨hi,fun e=>hti e.symm⟩
theorem Qp{i:Nat}:∀(l:List Nat) (s:List Nat × List Nat),Wp i l s=none→i∈l
 | [],s,h=>by cases h
 | t :: l,s,h=>by
  unfold Wp at h;split at h
  ·rename_i e;subst e;exact Zk
  ·split at h
   ·exact List.mem_cons_of_mem _ (Qp l _ h)
   ·exact List.mem_cons_of_mem _ (Qp l _ h)
theorem Qo{g:List (List Nat)}{i:Nat}:∀(l:List Nat) (s s':List Nat × List Nat),WR g i l s=some s' →
  ∃new:List Nat,s'=(s.1++new,s.2++new)∧(∀v∈l,∀t∈g.getD v [],t≠i∧t∈s'.1)∧(∀t∈new,∃v∈l,t∈g.getD v [])∧(s.1.Nodup→s'.1.Nodup)∧(i ∉ s.1→i ∉ s'.1)
 | [],s,s',h=>by
  simp only[WR,Option.some.injEq]at h;subst h;exact⟨[],by simp,by simp,by simp,id,id⟩
 | v :: l,s,s',h=>by
  unfold WR at h;obtain⟨s1,h1,h2⟩:=Option.bind_eq_some_iff.1 h;obtain⟨n1,rfl,a2,a3,a4,a5⟩:=Qq _ _ _ h1;obtain⟨n2,rfl,b2,b3,b4,b5⟩:=Qo l _ _ h2;refine⟨n1++n2,by simp,?_,?_,fun hd=>b4 (a4 hd),fun hi=>b5 (a5 hi)⟩
  ·intro x hx t ht
   rcases List.mem_cons.1 hx with rfl|hx
   ·obtain⟨c1,c2⟩:=a2 t ht
    exact⟨c1,List.mem_append_left _ c2⟩
   ·exact b2 x hx t ht
  ·intro t ht
   rcases List.mem_append.1 ht with ht|ht
   ·exact⟨v,Zk,a3 t ht⟩
   ·obtain⟨x,hx,hxt⟩:=b3 t ht
    exact⟨x,List.mem_cons_of_mem _ hx,hxt⟩
theorem OI{g:List (List Nat)}{i:Nat}:∀(l:List Nat) (s:List Nat × List Nat),WR g i l s=none→∃v∈l,i∈g.getD v []
 | [],s,h=>by cases h
 | v :: l,s,h=>by
  unfold WR at h;rcases h1:Wp i (g.getD v []) s with _|s1
  ·exact⟨v,Zk,Qp _ _ h1⟩
  ·rw[h1]at h
   obtain⟨x,hx,hxi⟩:=OI l s1 h;exact⟨x,List.mem_cons_of_mem _ hx,hxi⟩
structure Uy (g:List (List Nat)) (i:Nat) (now seen:List Nat):Prop where
 hnow:∀v∈now,v=i∨Xy g i v
 hseen:∀v∈seen,Xy g i v
 not:i ∉ seen
 dup:seen.Nodup
 sub:∀v∈now,v=i∨v∈seen
 done:∀v,(v=i∨v∈seen)→v ∉ now→∀t∈g.getD v [],t≠i∧t∈seen
theorem N1(g:List (List Nat))(i:Nat):Uy g i [i] [] :=
 ⟨fun v hv=>.inl (by simpa using hv),by simp,by simp,by simp,fun v hv=>.inl (by simpa using hv),fun v hv hn=>by
  rcases hv with rfl|hv
  ·simp at hn
  ·simp at hv⟩
theorem NZ{g:List (List Nat)}{i:Nat}{now seen:List Nat}(h:Uy g i now seen)(hs:WR g i now (seen,[])=none):Xy g i i:=by
 obtain⟨v,hv,hi⟩:=OI _ _ hs;rcases h.hnow v hv with rfl|hw
 ·exact .one hi
 ·exact .more hw hi
theorem N0{g:List (List Nat)}{i:Nat}{now seen:List Nat}(h:Uy g i now seen){s:List Nat × List Nat}(hs:WR g i now (seen,[])=some s):Uy g i s.2 s.1:=by
 obtain⟨new,rfl,h2,h3,h4,h5⟩:=Qo _ _ _ hs;have VN:∀t∈new,Xy g i t:=by
  intro t ht;obtain⟨v,hv,hvt⟩:=h3 t ht;rcases h.hnow v hv with rfl|hw
  ·exact .one hvt
  ·exact .more hw hvt
 simp only[List.nil_append]at *;refine⟨fun v hv=>.inr (VN v hv),?_,h5 h.not,h4 h.dup,fun v hv=>.inr (List.mem_append_right _ hv),?_⟩
 ·intro v hv
  rcases List.mem_append.1 hv with hv|hv
  ·exact h.hseen v hv
  ·exact VN v hv
 ·intro v hv hn t ht
  by_cases hvn:v∈now
  ·exact h2 v hvn t ht
  ·have:v=i∨v∈seen:=by
    rcases hv with e|hv
    ·exact .inl e
    ·rcases List.mem_append.1 hv with hv|hv
     ·exact .inr hv
     ·exact absurd hv hn
   obtain⟨c1,c2⟩:=h.done v this hvn t ht;exact⟨c1,List.mem_append_left _ c2⟩
theorem NY{g:List (List Nat)}{i:Nat}{seen:List Nat}(h:Uy g i [] seen):¬Xy g i i:=by
 have key:∀j,Xy g i j→j≠i∧j∈seen:=by
  intro j hj;induction hj with
  | one hb=>exact h.done _ (.inl rfl) (by simp) _ hb
  | more _ hk ih=>exact h.done _ (.inr ih.2) (by simp) _ hk
 exact fun hw=>(key i hw).1 rfl
theorem Qy{g:List (List Nat)}(hg:Uz g){a b:Nat}(h:Xy g a b):b<g.length:=by
 cases h with
 | one h=>exact hg _ _ h
 | more _ h=>exact hg _ _ h
theorem SI:∀(A B:List Nat),A.Nodup→(∀x∈A,x∈B)→A.length≤B.length
 | [],_,_,_=>Zq _
 | a :: A,B,hd,hs=>by
  have ha:=hs a Zk;have h1:=SI A (B.erase a) (List.nodup_cons.1 hd).2 (fun x hx=>by
   have YP:x≠a:=fun e=>(List.nodup_cons.1 hd).1 (e▸hx);exact (List.mem_erase_of_ne YP).2 (hs x (List.mem_cons_of_mem _ hx)))
  rw[List.length_erase_of_mem ha]at h1;have:0<B.length:=List.length_pos_of_mem ha;simp only[List.length_cons];omega
theorem QT{g:List (List Nat)}(hg:Uz g){i:Nat}{now seen:List Nat}(h:Uy g i now seen):seen.length≤g.length:=by
 have:=SI seen (List.range g.length) h.dup (fun x hx=>List.mem_range.2 (Qy hg (h.hseen x hx)));simpa using this
theorem GG{g:List (List Nat)}{U:Nat→Prop}(hU:TI g U){u:Nat}(hu:U u):∃i,U i∧Xy g i i:=by
 -- a list of nodes each of which comes tX9 all ahead of it
 have grow:∀n,∃l:List Nat,l.length=n+1∧(∀x∈l,U x)∧l.Pairwise (fun a b=>Xy g b a)∧l≠[]:=by
  intro n;induction n with
  | zero=>exact⟨[u],rfl,by simpa using hu,by simp,by simp⟩
  | succ n ih =>
   obtain⟨l,h1,h2,h3,h4⟩:=ih;obtain⟨a,l',rfl⟩:=List.exists_cons_of_ne_nil h4;obtain⟨k,hk,hUk⟩:=hU.on a (h2 a Zk);refine⟨k :: a :: l',by simpa using h1,?_,?_,by simp⟩
   ·intro x hx
    rcases List.mem_cons.1 hx with rfl|hx
    ·exact hUk
    ·exact h2 x hx
   ·rw[List.pairwise_cons]
    refine⟨fun b hb=>?_,h3⟩;rcases List.mem_cons.1 hb with rfl|hb
    ·exact .one hk
    ·exact .more ((List.pairwise_cons.1 h3).1 b hb) hk
 obtain⟨l,h1,h2,h3,_⟩:=grow g.length;-- more of them than there are nodes: one stands twice
 have hnd:¬l.Nodup:=fun hd=>by
  have:=SI l (List.range g.length) hd (fun x hx=>List.mem_range.2 (hU.lt x (h2 x hx)));rw[List.length_range,h1]at this;omega
 have find:∀l:List Nat,¬l.Nodup→l.Pairwise (fun a b=>Xy g b a)→∃i∈l,Xy g i i:=by
  intro l;induction l with
  | nil=>intro h;simp at h
  | cons a l ih =>
   intro hd hp;rw[List.pairwise_cons]at hp;by_cases ha:a∈l
   ·exact⟨a,Zk,hp.1 a ha⟩
   ·obtain⟨i,hi,hw⟩:=ih (fun hn=>hd (List.nodup_cons.2 ⟨ha,hn⟩)) hp.2
    exact⟨i,List.mem_cons_of_mem _ hi,hw⟩
 obtain⟨i,hi,hw⟩:=find l hnd h3;exact⟨i,h2 i hi,hw⟩
theorem FU{g:List (List Nat)}{a b:Nat}(h:Xy g a b):∃c,c∈g.getD a []∧(c=b∨Xy g c b):=by
 induction h with
 | one h=>exact⟨_,h,.inl rfl⟩
 | more _ k ih =>
  obtain⟨c,hc,hb⟩:=ih;rcases hb with rfl|hb
  ·exact⟨_,hc,.inr (.one k)⟩
  ·exact⟨_,hc,.inr (.more hb k)⟩
theorem MC{g:List (List Nat)}(hg:Uz g){i:Nat}(h:Xy g i i):TI g fun u=>u<g.length∧Xy g u i:=by
 refine⟨fun u h=>h.1,fun u hu=>?_⟩;obtain⟨c,hc,hb⟩:=FU hu.2;refine⟨c,hc,hg _ _ hc,?_⟩;rcases hb with rfl|hb
 ·exact h
 ·exact hb
theorem NH{g:List (List Nat)}(hg:Uz g):Vv g=true↔∀i,i<g.length→¬Xy g i i:=by
 constructor
 ·intro h i hi hw
  have:=GH (MC hg hw) (u:=i) ⟨hi,hw⟩;rw[h]at this;cases this
 ·intro h
  by_cases he:Vv g=true
  ·exact he
  ·obtain⟨U,hU,u,hu⟩:=Iv hg (by simpa using he)
   obtain⟨i,hi,hw⟩:=GG hU hu;exact absurd hw (h i (hU.lt i hi))
def RS(s:Sp):List Nat:=(Ud s).filterMap fun t=>if 0≤t then some t.toNat else none
def Td(S:List Bool)(t:Int):Bool:=decide (0≤t)&&!(S.getD t.toNat false)
theorem Ps(S:List Bool):∀l:List Int,(!(l.any (Td S)))=(l.filterMap fun t=>if 0≤t then some t.toNat else none).all fun t=>S.getD t false
 | []=>rfl
 | t :: l=>by
  rw[List.any_cons,Bool.not_or,Ps S l];by_cases h:0≤t
  ·rw[List.filterMap_cons_some (b:=t.toNat) (by simp[h]),List.all_cons]
   unfold Td;rw[decide_eq_true h,Ze,Bool.not_not]
  ·rw[List.filterMap_cons_none (by simp[h])]
   unfold Td;rw[decide_eq_false h,Bool.false_and,Bool.not_false,Ze]
def VT(S:List Bool):Array Value:=(S.map Zs).toArray
theorem N7(S:List Bool)(k:Nat)(b):(VT S).setIfInBounds k (.bool b)=VT (S.set k b):=by
 apply Array.ext';simp[VT,List.map_set]
theorem N6{S:List Bool}{k:Nat}{x:Bool}(h:S[k]?=some x):(VT S)[k]?=some (.bool x):=by simp[VT,h]
theorem N8:(Zr.info? 4).map (fun i=>(i.zero,i.size,i.bytes))=some (some (.bool false),1,1):=by kernel_rfl
theorem J6(z:Value)(n:Nat)(hz:z.cells=#[z]):madeCells z.cells (n*1)=Array.replicate n z:=by
 unfold madeCells;rw[hz,Nat.mul_one];apply Array.ext
 ·simp
 ·intro i h1 h2
  simp[Nat.mod_one]
theorem J7(n:Nat)(hn:n≤1048576)(w:World):(Instr.makeSlice 153 (.int .i64 (n:Int)) (.int .i64 (n:Int))).run Zr w=.ok (.slice (some ⟨w.heap.size,0,none⟩) n n) (w.alloc (.cells (VT (List.replicate n false)) 4)):=by
 obtain⟨i0,hi0,Ws,WH,hi3⟩:=info_parts N8;have:=run_make (P:=Zr) w 153 4 i0 _ Tryz.underlying153 hi0 Ws .i64 .i64 (n:Int) (n:Int) (by omega) (by omega) (by rw[hi3];omega) (by omega);rw[WH,Int.toNat_natCast,J6 _ _ rfl]at this;rw[this];congr 3
 apply Array.ext';simp[VT]
theorem Pw{W:World}{b:Nat}{cs:Array Value}{t:TypeId}{fr:Nat × Nat}(h:W.heap[b]?=some (.cells cs t fr)){j:Nat}{u:Value}(hj:cs[j]?=some u):W.cell? ⟨b,j,none⟩=some u:=by simp[World.cell?,h,hj]
structure AE (V:World) (n:Nat) (S:List Bool) (wr:World):Prop where
 below:Below V.heap.size V wr
 len:S.length=n
 row:wr.heap[V.heap.size]?=some (.cells (VT S) 4 (0,0))
 box:wr.cell? ⟨V.heap.size+1,0,none⟩=some (.slice (some ⟨V.heap.size,0,none⟩) n n)
 big:V.heap.size+1<wr.heap.size
theorem AE.on{V wr w':World}{n:Nat}{S:List Bool}(h:AE V n S wr)(hB:Below wr.heap.size wr w'):AE V n S w' :=
 ⟨h.below.trans (hB.mono h.below.size),h.len,(hB.block _ (by have:=h.big;omega)).trans h.row,(hB.cell (p:=⟨V.heap.size+1,0,none⟩) h.big).trans h.box,Nat.lt_of_lt_of_le h.big hB.size⟩
theorem AE.plus{V wr:World}{n:Nat}{S:List Bool}(h:AE V n S wr)(y:ZA):AE V n S (Go.Proofs.YtheaknidbcbneaaGreat.plus wr y):=h.on (Z9 wr y)
theorem AE.alloc{V wr:World}{n:Nat}{S:List Bool}(h:AE V n S wr)(o:Obj):AE V n S (wr.alloc o):=h.on ((Zc _ wr).alloc (Zp _) o)
theorem AE.cell{V wr:World}{n:Nat}{S:List Bool}(h:AE V n S wr){k:Nat}{b:Bool}(hk:S[k]?=some b):wr.cell? ⟨V.heap.size,k,none⟩=some (.bool b):=Pw h.row (N6 hk)
theorem AE.frozen{V wr:World}{n:Nat}{S:List Bool}(h:AE V n S wr)(k:Nat):wr.frozen? ⟨V.heap.size,k,none⟩=false:=by simp[World.frozen?,h.row]
theorem AE.store{V wr:World}{n:Nat}{S:List Bool}(h:AE V n S wr)(k:Nat)(b:Bool):AE V n (S.set k b) (wr.setCell ⟨V.heap.size,k,none⟩ (.bool b)):=by
 refine⟨h.below.setCell (Zp _) _,by rw[List.length_set,h.len],?_,?_,by simpa using h.big⟩
 ·obtain⟨h1,h2⟩:=Array.getElem?_eq_some_iff.1 h.row
  rw[←N7];simp[World.setCell,Array.getElem_modify,h1,h2]
 ·rw[World.cell?_of_block (show (wr.setCell ⟨V.heap.size,k,none⟩ (.bool b)).heap[V.heap.size+1]?=wr.heap[V.heap.size+1]? from Below.heap_setCell _ _ _ _ (by simp))]
  exact h.box
theorem NF(V:World)(n:Nat)(t:TypeId):AE V n (List.replicate n false) ((V.alloc (.cells (VT (List.replicate n false)) 4)).alloc (.cells #[.slice (some ⟨V.heap.size,0,none⟩) n n] t)):=by
 have s1:(V.alloc (.cells (VT (List.replicate n false)) 4)).heap.size=V.heap.size+1:=by simp
 refine⟨((Zc _ V).alloc (Zp _) _).alloc (by omega) _,by simp,?_,?_,by simp⟩
 ·rw[Below.heap_alloc _ _ _ (by omega)];exact heap_alloc_new V _
 ·exact (Z4 _ _ _ _ 0 s1.symm).trans rfl
theorem P1:∀l:List Bool,(!(l.any fun x=>false==x))=l.all id
 | []=>rfl
 | b :: l=>by rw[List.any_cons,List.all_cons,Bool.not_or,P1 l];cases b <;> rfl
def gF(l:List Sp):List (List Nat):=l.map RS
theorem Po{l:List Sp}{k:Nat}{s:Sp}(h:l[k]?=some s):(gF l).getD k []=RS s:=by
 unfold gF;rw[List.getD_eq_getElem?_getD,List.getElem?_map,h];rfl
theorem KC(A:Sl Sp)(V:World)(hA:A.In V 4 Sp.cells (Sp.In V))(hl:A.l.length≤1048576)(hbr:∀s∈A.l,s.branches.l.length≤1048576)(Xg:∀s∈A.l,∀t∈Ud s,t<(A.l.length:Int)) :
  Calls Zr 48 #[A.v] V fun e w'=>e=.returned (.bool (Vv (gF A.l)))∧∃x,w'=plus V x:=by
 obtain⟨p,cap,l⟩:=A;have Z1:=hA.row;have Wl:=hA.kids;simp only[Sl.v]at hl Z1 Wl hbr Xg ⊢;obtain⟨n,hn⟩:=Zv l.length;rw[hn]at hl Xg ⊢;have hmk:=J7 n hl;have ZJ:=Zg hn;have T6:=Zg Z1;have hkids':=Zg Wl;have ZX:=Zg hl;have hbr':=Zg hbr;have Th:=Zg Xg;have hS0:=Zg (NF V n 153);have hg:Hid ((gF l).length=n):=Zg (by unfold gF;rw[List.length_map,hn]);obtain⟨R,hR⟩:=Zv (Vv (gF l));rw[hR];have Yi:=Zg hR;clear hA Z1 Wl hn hbr Xg hR;go_enter func48,ntmps48;go_wp2;generalize (V.alloc (.cells (VT (List.replicate n false)) 4)).alloc (.cells #[.slice (some ⟨V.heap.size,0,none⟩) n n] 153)=W0 at hS0 ⊢;go_loopw [5,6,13] (fun _ _ iv wr=>∃k:Nat,k≤n∧iv=.int .i64 (k:Int)∧Hid (AE V n (YB (gF l) k) wr)) (fun _ _ iv _=>n-(intOf iv).toNat)
 case atStart=>exact⟨0,Zq _,rfl,Zg (by have:=hS0.out;show AE V n (List.replicate (gF l).length false) _;rw[hg.out];exact this)⟩
 case round =>
  obtain⟨k,hk,rfl,hE⟩:=hrel;clear hS0;by_cases Zz:k<n
  ·have hk':=Zg hk
   have hE0:Hid (AE V n (Xe (gF l) (YB (gF l) k) 0) wr):=Zg hE.out;clear hE;go_wp2;go_loopw [5,6,17] (fun _ _ jv wr=>∃j:Nat,j≤n∧jv=.int .i64 (j:Int)∧Hid (AE V n (Xe (gF l) (YB (gF l) k) j) wr)) (fun _ _ jv _=>n-(intOf jv).toNat)
   case atStart=>exact⟨0,Zq _,rfl,hE0⟩
   case round =>
    obtain⟨j,hj,rfl,hE⟩:=hrel;clear hE0;by_cases hj2:j<n
    ·obtain⟨⟨⟨tp,tc,tl⟩,⟨kp,kc,kl⟩,⟨bp,bc,bl⟩,d⟩,hq⟩:∃q,l[j]?=some q:=⟨l[j]'(by rw[ZJ.out];exact hj2),Zi _⟩
     obtain⟨a,rfl,hc⟩:=T6.out j _ hq;have X3:=V5 hE.out.below hc;have d0:wr.cell? _=some (.slice tp tl.length tc):=X3.c0 _ rfl;have d1:wr.cell? _=some (.slice kp kl.length kc):=X3.cs 0 _ rfl;have d2:wr.cell? _=some (.slice bp bl.length bc):=X3.cs 1 _ rfl;have d3:wr.cell? _=some (.int .i64 d):=X3.cs 2 _ rfl;have X4:=Zl hq;have hsV:=hkids'.out _ X4;have hbrs:=hbr'.out _ X4;have hfits:=Zg (Th.out _ X4);have hgj:=Zg (Po hq);have k0:¬((j:Int)<0):=by omega
     have k1:(j:Int)<(n:Int):=by omega
     clear hc X3 hq;obtain⟨S,hS⟩:=Zv (Xe (gF l) (YB (gF l) k) j);rw[hS]at hE;obtain⟨V1,hV1⟩:=Zv (wr.alloc (.cells #[.slice tp tl.length tc,.slice kp kl.length kc,.slice bp bl.length bc,.int .i64 d] 49));have VC:AE V n S V1:=by rw[←hV1];exact hE.out.alloc _
     have ZB:V1.heap.size=wr.heap.size+1:=by rw[←hV1];simp
     have VN:∀j v,#[.slice tp tl.length tc,.slice kp kl.length kc,.slice bp bl.length bc,.int .i64 d][j]?=v→V1.cell? ⟨wr.heap.size,j,none⟩=v:=fun j v h=>by rw[←hV1];exact (Z4 _ _ _ _ j rfl).trans h
     have hED:AE V n S V1.drew:=VC.on (Wy (Zc _ V1));have hD1:V1.drew.heap.size=V1.heap.size:=rfl;have g0:∀x,(Go.Proofs.YtheaknidbcbneaaGreat.plus V1.drew x).cell? ⟨wr.heap.size,0,none⟩=some (.slice tp tl.length tc):=Yb (by omega) (VN 0 _ rfl);have g1:∀x,(Go.Proofs.YtheaknidbcbneaaGreat.plus V1.drew x).cell? ⟨wr.heap.size,1,none⟩=some (.slice kp kl.length kc):=Yb (by omega) (VN 1 _ rfl);have g2:∀x,(Go.Proofs.YtheaknidbcbneaaGreat.plus V1.drew x).cell? ⟨wr.heap.size,2,none⟩=some (.slice bp bl.length bc):=Yb (by omega) (VN 2 _ rfl);have g3:∀x,(Go.Proofs.YtheaknidbcbneaaGreat.plus V1.drew x).cell? ⟨wr.heap.size,3,none⟩=some (.int .i64 d):=Yb (by omega) (VN 3 _ rfl);have f0:V1.cell? ⟨wr.heap.size,0,none⟩=some (.slice tp tl.length tc):=VN 0 _ rfl;have f1:V1.cell? ⟨wr.heap.size,1,none⟩=some (.slice kp kl.length kc):=VN 1 _ rfl;have f2:V1.cell? ⟨wr.heap.size,2,none⟩=some (.slice bp bl.length bc):=VN 2 _ rfl;have f3:V1.cell? ⟨wr.heap.size,3,none⟩=some (.int .i64 d):=VN 3 _ rfl;have b0:=VC.box;have b1:=fun x=>(hED.plus x).box;obtain⟨bj,hbj⟩:=Z6 S j (by rw[VC.len];exact hj2);have c1:=fun x=>(hED.plus x).cell hbj;have z1:=fun x=>(hED.plus x).frozen j;obtain⟨z,hz⟩:=ZS hED.below;have hT:=Zg (JS ⟨⟨tp,tc,tl⟩,⟨kp,kc,kl⟩,⟨bp,bc,bl⟩,d⟩ V1.drew (by rw[hz];exact hsV.plus z) hbrs);obtain⟨B9,hB9⟩:=Zv ((Ud ⟨⟨tp,tc,tl⟩,⟨kp,kc,kl⟩,⟨bp,bc,bl⟩,d⟩).any (Td S));have hcon:Hid (∀(A:Sl Int) (x:ZA),A.l=Ud ⟨⟨tp,tc,tl⟩,⟨kp,kc,kl⟩,⟨bp,bc,bl⟩,d⟩→A.In (Go.Proofs.YtheaknidbcbneaaGreat.plus V1.drew x) 1 (Z8 .i64) (Yg .i64)→Kp Zr (Go.Proofs.YtheaknidbcbneaaGreat.plus V1.drew x) 75 #[A.v,.func (.func 86) #[] #[.pointer (some ⟨V.heap.size+1,0,none⟩)]] (.bool B9)):=Zg (fun A x hA1 hA2=>by
      have:=UO (Td S) 86 #[] #[.pointer (some ⟨V.heap.size+1,0,none⟩)] (Yg .i64) _ A hA2 (by rw[hA1];unfold Ud;split;simp;rw[List.length_map];exact hbrs) (enters_of func86 (by kernel_rfl) rfl) (fun t ht=>by
       by_cases h0:0≤t
       ·have ht2:=hfits.out t (hA1▸ht)
        obtain⟨m,rfl⟩:∃m:Nat,t=(m:Int):=⟨t.toNat,by omega⟩;have hm:m<S.length:=by rw[VC.len];omega
        have hb:S[m]?=some S[m]:=Zi hm;refine (KQ m (V.heap.size+1) V.heap.size n S[m] _ (by omega) (hED.plus x).box ((hED.plus x).cell hb)).eqv ?_;unfold Td;rw[decide_eq_true h0,Ze,Int.toNat_natCast,List.getD_eq_getElem?_getD,hb];rfl
       ·refine (KR t (V.heap.size+1) _ (by omega)).eqv ?_
        unfold Td;rw[decide_eq_false h0];rfl)
      rwa [hA1,hB9]at this)
     have WZ:Hid (Vk (gF l) S j=!B9):=Zg (by unfold Vk;rw[hgj.out,←hB9,Ps];rfl);have hstep:Hid (Xe (gF l) (YB (gF l) k) (j+1)=S.set j (!B9)):=Zg (by rw[UT,hS,WZ.out]);have hED':=Zg hED;go_upto_region 8 with (fail)
     try rw[hV1]
     clear hV1 VC hED ZB VN hD1 hsV hbrs X4 hz hB9 hbj hE WZ hmk d0 d1 d2 d3;go_region_law (go_simp;first|(go_at_call 87;refine hT.out.mono ?_;rintro e w' ⟨A,rfl,hA1,hA2,x,rfl⟩;have hC:=Zg (hcon.out A x hA1 hA2);clear hA1 hA2)|(go_at_call 75;refine (YN hC.out).mono ?_;rintro e w' ⟨rfl,y,rfl⟩;rw[Zx]));all_goals
      have hI9:Hid (AE V n (Xe (gF l) (YB (gF l) k) (j+1)) ((Go.Proofs.YtheaknidbcbneaaGreat.plus V1.drew (⟨x.blocks++y.blocks,y.draws⟩:ZA)).setCell ⟨V.heap.size,j,none⟩ (.bool (!B9)))):=Zg (by rw[hstep.out];exact (hED'.out.plus _).store j _);clear hC hcon hT c1 z1 b0 b1 g0 g1 g2 g3 f0 f1 f2 f3 hED';generalize (Go.Proofs.YtheaknidbcbneaaGreat.plus V1.drew (⟨x.blocks++y.blocks,y.draws⟩:ZA)).setCell ⟨V.heap.size,j,none⟩ (.bool (!B9))=W9 at hI9 ⊢;go_wp2;go_roundw
      case rel=>exact⟨j+1,hj2,congrArg (Zt .i64) (by omega),hI9⟩
      case measure=>exact Wg j n hj2
    ·obtain rfl:j=n:=by omega
     go_wp2;go_roundw
     case rel=>exact⟨k+1,Zz,congrArg (Zt .i64) (by omega),Zg (by have:=hE.out;show AE V _ (Xe (gF l) (YB (gF l) k) (gF l).length) _;rw[hg.out];exact this)⟩
     case measure=>exact Wg k _ Zz
  ·obtain rfl:k=n:=by omega
   have hrow9:Z2 wr 1 (fun x=>[Zs x]) (some ⟨V.heap.size,0,none⟩) (YB (gF l) k):=fun i x hx=>⟨_,rfl,fun j u hu=>by
    match j,hu with
    | 0,hu =>
     obtain rfl:=Option.some.inj hu;rw[Nat.mul_one,Addr.add_lit,Addr.add_lit];simpa using hE.out.cell hx⟩
   have hC:=KV wr (some ⟨V.heap.size,0,none⟩) k (YB (gF l) k) false hrow9 (by rw[hE.out.len];exact hl);rw[hE.out.len]at hC;obtain⟨B9,hB9⟩:=Zv ((YB (gF l) k).any fun x=>false==x);rw[hB9]at hC;have hv:Hid ((!B9)=R):=Zg (by rw[←Yi.out,←hB9];unfold Vv;rw[hg.out];exact P1 _);have b0:=hE.out.box;have Xr:=Zg hC;have Y3:=Zg hE.out.below;clear hC hrow9 hB9 hE hmk;go_wp2_with fail;refine (YN Xr.out).mono ?_;rintro e w' ⟨rfl,x1,rfl⟩;go_wp2_with fail;go_ret;exact⟨congrArg (fun z=>Zf (Zs z)) hv.out,ZS (Y3.out.trans ((Z9 wr x1).mono Y3.out.size))⟩
end Go.Proofs.YtheaknidbcbneaaGreat
