/-
  WHAT IS PROVED HERE: a part of the proof (made narrower and merged by program; the parts: SA).
-/
import Derived.Test.YtobhijbncchpiaaGreatRows
import Derived.Deep.Slices
import Derived.Deep.Fields
import Derived.ChangeSame
import Derived.WalkKit
import Derived.Lib.Hide
import Derived.WalkSpells
import Derived.WalkLawsBesides
import Derived.Test.YtobhijbncchpiaaGreatM1
namespace Go.Proofs.YtobhijbncchpiaaGreat
open Go.ChangeShapes Go.WideShapes Go.RowKit Go.Deep
/-- The cells of a thing stand from an address on. -/
def CellsAt (w:World) (a:Addr) (cs:List Value):Prop:=∀ j v,cs[j]?=some v→w.cell? (a.add j)=some v
/-- The things of a list stand side by side from an address on, each of C cells. -/
def RowAt {α:Type} (w:World) (C:Nat) (cells:α→List Value) (p:Option Addr) (l:List α):Prop :=
 ∀ i x,l[i]?=some x→∃ a,p=some a∧CellsAt w (a.add (i*C)) (cells x)
theorem block_in {w:World} {a:Addr} {v:Value} (h:w.cell? a=some v):a.block < w.heap.size:=by
 by_cases hb:a.block < w.heap.size
 ·exact hb
 ·unfold World.cell? at h
  rw [Array.getElem?_eq_none (by omega)] at h
  cases h
theorem cell_keep {w:World} {a:Addr} {v:Value} (h:w.cell? a=some v) (x:Ext):(plus w x).cell? a=some v :=
 ((below_plus w x).cell (p:=a) (block_in h)).trans h
theorem CellsAt.plus {w:World} {a:Addr} {cs:List Value} (h:CellsAt w a cs) (x:Ext):CellsAt (plus w x) a cs:=fun j v hj=>cell_keep (h j v hj) x
theorem RowAt.plus {α:Type} {w:World} {C:Nat} {cells:α→List Value} {p:Option Addr} {l:List α} (h:RowAt w C cells p l) (x:Ext):RowAt (plus w x) C cells p l:=fun i y hi=>by
 obtain⟨a,ha,hc⟩:=h i y hi
 exact⟨a,ha,hc.plus x⟩
theorem bulkAll_map {H:Type} {α β:Type} (size:α→Nat) (f:β→DataW H):∀ (l:List α) (ys:List β),l.length=ys.length→(∀ (i:Nat) (x:α) (y:β),l[i]?=some x→ys[i]?=some y→size x≤Rows.uptoBulk (f y))→(l.map size).sum≤Rows.uptoBulkAll (ys.map f)
 | [],[],_,_=>by simp [Rows.uptoBulkAll]
 | [],_ :: _,h,_=>by simp at h
 | _ :: _,[],h,_=>by simp at h
 | x :: l,y :: ys,h,hs=>by
  have h0:=hs 0 x y rfl rfl
  have h1:=bulkAll_map size f l ys (by simpa using h) fun i x' y' e e'=>hs (i+1) x' y' (by simpa using e) (by simpa using e')
  simp only [List.map_cons,List.sum_cons,Rows.uptoBulkAll]
  omega
section
variable {H:Type} {enc:TypeId × Value→H} {P:Program} {w:World} {base:Nat} {spare:Nat→Bool} {held:Bool}
/-- What reads as data of a type is a thing of ours. -/
def Opens (enc:TypeId × Value→H) (P:Program) (w:World) (base:Nat) (spare:Nat→Bool) (held:Bool) (fuel:Nat) (t:TypeId) {α:Type} (cells:α→List Value) (In:α→Prop) (size:α→Nat):Prop :=
 ∀ cs x,DataW.trod enc P w base spare held fuel t cs=some x→∃ e:α,cs=cells e∧In e∧size e≤Rows.uptoBulk x.1
theorem open_row {t e:TypeId} {C fuel:Nat} {α:Type} {cells:α→List Value} {In:α→Prop} {size:α→Nat} {cs:List Value} {x:DataW H × List MemPlace} (ht:P.underlying t=some (.slice e)) (hC:P.cellsOf e=C)
  (ho:∀ n,n < fuel→Opens enc P w base spare held n e cells In size) (h:DataW.trod enc P w base spare held fuel t cs=some x) :
  ∃ (p:Option Addr) (cap:Nat) (l:List α),cs=[.slice p l.length cap]∧l.length≤cap∧cap≤maxLen∧RowAt w C cells p l∧(∀ y ∈ l,In y)∧(l.map size).sum+1≤Rows.uptoBulk x.1:=by
 subst hC
 rcases DataW.trod_slice ht h with ⟨rfl,rfl⟩ | ⟨a,len,cap,elems,rest,n,rfl,rfl,rfl,hb,hl,hm,hlen,hel,_,_⟩
 ·exact⟨none,0,[],rfl,Nat.le_refl _,Nat.zero_le _,fun i x hi=>by simp at hi,fun y hy=>by simp at hy,by simp [Rows.uptoBulk]⟩
 ·have key:∀ i,i < len→∃ y:α,∃ z,elems[i]?=some z∧CellsAt w (a.add (i*P.cellsOf e)) (cells y)∧In y∧size y≤Rows.uptoBulk z.1:=by
   intro i hi
   have hz:elems[i]?=some (elems[i]'(by omega)):=List.getElem?_eq_getElem (by omega)
   have:=hel i hi
   rw [hz] at this
   obtain⟨cs',h1,h2⟩:=Option.bind_eq_some_iff.1 this
   obtain⟨y,hy,hin,hs⟩:=ho n (Nat.lt_succ_self n) cs' _ h2
   obtain⟨_,hcl,hat⟩:=World.cells?_some h1
   refine⟨y,_,hz,fun j v hj=>?_,hin,hs⟩
   rw [← hy] at hj
   have hjl:j < cs'.length:=(List.getElem?_eq_some_iff.1 hj).1
   rw [hat j (by omega),hj]
  clear hel h ho
  have:∃ l:List α,l.length=len∧∀ i y,l[i]?=some y→∃ z,elems[i]?=some z∧CellsAt w (a.add (i*P.cellsOf e)) (cells y)∧In y∧size y≤Rows.uptoBulk z.1:=by
   by_cases h0:len=0
   ·exact⟨[],by simp [h0],fun i y hi=>by simp at hi⟩
   ·obtain⟨y0,_⟩:=key 0 (by omega)
    haveI:Inhabited α:=⟨y0⟩
    obtain⟨f,hf⟩:=choose_lt key
    refine⟨(List.range len).map f,by simp,fun i y hi=>?_⟩
    simp only [List.getElem?_map] at hi
    by_cases hil:i < len
    ·rw [List.getElem?_range hil] at hi
     simp only [Option.map_some,Option.some.injEq] at hi
     subst hi
     exact hf i hil
    ·rw [List.getElem?_eq_none (by simpa using hil)] at hi
     simp at hi
  obtain⟨l,hll,hl'⟩:=this
  refine⟨some a,cap,l,by rw [hll],by omega,hm,fun i y hi=>?_,fun y hy=>?_,?_⟩
  ·obtain⟨z,_,h2,_⟩:=hl' i y hi
   exact⟨a,rfl,h2⟩
  ·obtain⟨i,hi⟩:=List.mem_iff_getElem?.1 hy
   obtain⟨z,_,_,h3,_⟩:=hl' i y hi
   exact h3
  ·have:=bulkAll_map (H:=H) size (fun z:DataW H × List MemPlace=>z.1) l elems (by omega) fun i y z hy hz=>by
    obtain⟨z',e1,_,_,h4⟩:=hl' i y hy
    rw [hz] at e1
    obtain rfl:=Option.some.inj e1
    exact h4
   show (l.map size).sum+1≤Rows.uptoBulkAll (elems.map (·.1))+Rows.uptoBulkAll (rest.map (·.1))+1
   omega
end
/-- A number, as it is written. -/
structure Lt where
 w:Int
 h:Int
 l:Int
def Lt.cells (t:Lt):List Value:=[.int .i64 t.w,.int .u64 t.h,.int .u64 t.l]
structure Lt.Ok (t:Lt):Prop where
 w:(Lit.int .i64 t.w).wf=true
 h:(Lit.int .u64 t.h).wf=true
 l:(Lit.int .u64 t.l).wf=true
/-- An expression: what stands in it, and where its Args lie. -/
inductive Ex where
 | mk (op:Int) (lit:Lt) (head name:ByteArray) (hi lo:Int) (p:Option Addr) (cap:Nat) (args:List Ex)
def Ex.op:Ex→Int | .mk op _ _ _ _ _ _ _ _=>op
def Ex.lit:Ex→Lt | .mk _ t _ _ _ _ _ _ _=>t
def Ex.head:Ex→ByteArray | .mk _ _ s _ _ _ _ _ _=>s
def Ex.name:Ex→ByteArray | .mk _ _ _ s _ _ _ _ _=>s
def Ex.hi:Ex→Int | .mk _ _ _ _ h _ _ _ _=>h
def Ex.lo:Ex→Int | .mk _ _ _ _ _ l _ _ _=>l
def Ex.p:Ex→Option Addr | .mk _ _ _ _ _ _ p _ _=>p
def Ex.cap:Ex→Nat | .mk _ _ _ _ _ _ _ c _=>c
def Ex.args:Ex→List Ex | .mk _ _ _ _ _ _ _ _ l=>l
def Ex.cells (e:Ex):List Value:=[.int .u8 e.op,.int .i64 e.lit.w,.int .u64 e.lit.h,.int .u64 e.lit.l,.string e.head,.string e.name,.int .i64 e.hi,.int .i64 e.lo,.slice e.p e.args.length e.cap]
def Ex.val (e:Ex):Value:=.agg e.cells.toArray
theorem Ex.ind {Q:Ex→Prop} (h:∀ e:Ex,(∀ x ∈ e.args,Q x)→Q e):∀ e,Q e:=fun e =>
 Ex.rec (motive_1:=Q) (motive_2:=fun l=>∀ x ∈ l,Q x) (fun _ _ _ _ _ _ _ _ _ ih=>h _ ih) (fun x hx=>by simp at hx) (fun _ _ h1 h2 x hx=>by
  rcases List.mem_cons.1 hx with rfl | hx
  ·exact h1
  ·exact h2 x hx) e
mutual
/-- How many nodes and bytes it has. -/
def Ex.wt:Ex→Nat
 | .mk _ _ hd nm _ _ _ _ args=>1+hd.size+nm.size+Ex.wts args
def Ex.wts:List Ex→Nat
 | []=>0
 | e :: l=>e.wt+Ex.wts l
end
theorem Ex.wts_sum:∀ l:List Ex,Ex.wts l=(l.map Ex.wt).sum
 | []=>by simp [Ex.wts]
 | e :: l=>by simp [Ex.wts,Ex.wts_sum l]
theorem Ex.wt_eq (e:Ex):e.wt=1+e.head.size+e.name.size+(e.args.map Ex.wt).sum:=by
 cases e;simp [Ex.wt,Ex.wts_sum,Ex.head,Ex.name,Ex.args]
/-- It lies in memory. -/
inductive Ex.In (w:World):Ex→Prop where
 | mk (e:Ex) (op:(Lit.int .u8 e.op).wf=true) (lit:e.lit.Ok) (hi:(Lit.int .i64 e.hi).wf=true) (lo:(Lit.int .i64 e.lo).wf=true) (hd:e.head.size≤maxLen) (nm:e.name.size≤maxLen)
   (len:e.args.length≤e.cap) (cap:e.cap≤maxLen) (row:RowAt w 9 Ex.cells e.p e.args) (kids:∀ x ∈ e.args,Ex.In w x):Ex.In w e
theorem Ex.In.plus {w:World} (x:Ext):∀ {e:Ex},e.In w→e.In (plus w x):=fun {e} h=>by
 induction h with
 | mk e op lit hi lo hd nm len cap row _ ih=>exact .mk e op lit hi lo hd nm len cap (row.plus x) ih
section
variable {H:Type} {enc:TypeId × Value→H} {w:World} {base:Nat} {spare:Nat→Bool} {held:Bool}
theorem cI:Tryz.prog.cellsOf 3=1:=by kernel_rfl
theorem cU8:Tryz.prog.cellsOf 5=1:=by kernel_rfl
theorem cU64:Tryz.prog.cellsOf 38=1:=by kernel_rfl
theorem cS:Tryz.prog.cellsOf 9=1:=by kernel_rfl
theorem cNum:Tryz.prog.cellsOf 40=2:=by kernel_rfl
theorem cLit:Tryz.prog.cellsOf 42=3:=by kernel_rfl
theorem cExpr:Tryz.prog.cellsOf 45=9:=by kernel_rfl
theorem cExprs:Tryz.prog.cellsOf 43=1:=by kernel_rfl
set_option maxRecDepth 100000 in
theorem open_num {fuel:Nat} {cs:List Value} {x:DataW H × List MemPlace} (h:DataW.trod enc Tryz.prog w base spare held fuel 40 cs=some x) :
  ∃ a b:Int,cs=[.int .u64 a,.int .u64 b]∧(Lit.int .u64 a).wf=true∧(Lit.int .u64 b).wf=true:=by
 obtain⟨xs,n,rfl,rfl,hcl,hxl,hf⟩:=DataW.trod_struct (P:=Tryz.prog) Tryz.underlying40 h
 have hcl':cs.length=2:=hcl.trans cNum
 clear hcl h
 match cs,hcl' with
 | [c0,c1],_ =>
  match xs,hxl with
  | [x0,x1],_ =>
   have h0:DataW.trod enc Tryz.prog w base spare held n 38 [c0]=some x0:=by simpa [cU64] using hf 0 _ rfl
   have h1:DataW.trod enc Tryz.prog w base spare held n 38 [c1]=some x1:=by simpa [cU64] using hf 1 _ rfl
   obtain⟨a,e0,_,w0⟩:=DataW.trod_int Tryz.underlying38 h0
   obtain⟨b,e1,_,w1⟩:=DataW.trod_int Tryz.underlying38 h1
   obtain rfl:=List.head_eq_of_cons_eq e0
   obtain rfl:=List.head_eq_of_cons_eq e1
   exact⟨a,b,rfl,w0,w1⟩
set_option maxRecDepth 100000 in
theorem open_lit {fuel:Nat}:Opens enc Tryz.prog w base spare held fuel 42 Lt.cells Lt.Ok (fun _=>1):=by
 intro cs x h
 obtain⟨xs,n,rfl,rfl,hcl,hxl,hf⟩:=DataW.trod_struct (P:=Tryz.prog) Tryz.underlying42 h
 have hcl':cs.length=3:=hcl.trans cLit
 clear hcl h
 match cs,hcl' with
 | [c0,c1,c2],_ =>
  match xs,hxl with
  | [x0,x1],_ =>
   have h0:DataW.trod enc Tryz.prog w base spare held n 3 [c0]=some x0:=by simpa [cI] using hf 0 _ rfl
   have h1:DataW.trod enc Tryz.prog w base spare held n 40 [c1,c2]=some x1:=by simpa [cNum] using hf 1 _ rfl
   obtain⟨a,e0,_,w0⟩:=DataW.trod_int Tryz.underlying3 h0
   obtain⟨b,c,e1,w1,w2⟩:=open_num h1
   obtain rfl:=List.head_eq_of_cons_eq e0
   simp only [List.cons.injEq,and_true] at e1
   obtain⟨rfl,rfl⟩:=e1
   exact⟨⟨a,b,c⟩,rfl,⟨w0,w1,w2⟩,by simp [Rows.uptoBulk]⟩
set_option maxRecDepth 100000 in
theorem open_ex:∀ (fuel:Nat),Opens enc Tryz.prog w base spare held fuel 45 Ex.cells (Ex.In w) Ex.wt:=by
 intro fuel
 induction fuel using Nat.strongRecOn with
 | ind fuel ih =>
 intro cs x h
 obtain⟨xs,n,rfl,rfl,hcl,hxl,hf⟩:=DataW.trod_struct (P:=Tryz.prog) Tryz.underlying45 h
 have hcl':cs.length=9:=hcl.trans cExpr
 clear hcl h
 match cs,hcl' with
 | [c0,c1,c2,c3,c4,c5,c6,c7,c8],_ =>
  match xs,hxl with
  | [x0,x1,x2,x3,x4,x5,x6],_ =>
   have h0:DataW.trod enc Tryz.prog w base spare held n 5 [c0]=some x0:=by simpa [cU8] using hf 0 _ rfl
   have h1:DataW.trod enc Tryz.prog w base spare held n 42 [c1,c2,c3]=some x1:=by simpa [cLit] using hf 1 _ rfl
   have h2:DataW.trod enc Tryz.prog w base spare held n 9 [c4]=some x2:=by simpa [cS] using hf 2 _ rfl
   have h3:DataW.trod enc Tryz.prog w base spare held n 9 [c5]=some x3:=by simpa [cS] using hf 3 _ rfl
   have h4:DataW.trod enc Tryz.prog w base spare held n 3 [c6]=some x4:=by simpa [cI] using hf 4 _ rfl
   have h5:DataW.trod enc Tryz.prog w base spare held n 3 [c7]=some x5:=by simpa [cI] using hf 5 _ rfl
   have h6:DataW.trod enc Tryz.prog w base spare held n 43 [c8]=some x6:=by simpa [cExprs] using hf 6 _ rfl
   obtain⟨op,e0,_,w0⟩:=DataW.trod_int Tryz.underlying5 h0
   obtain⟨t,e1,w1,_⟩:=open_lit _ _ h1
   obtain⟨hd,e2,q2,w2⟩:=DataW.trod_string Tryz.underlying9 h2
   obtain⟨nm,e3,q3,w3⟩:=DataW.trod_string Tryz.underlying9 h3
   obtain⟨hi,e4,_,w4⟩:=DataW.trod_int Tryz.underlying3 h4
   obtain⟨lo,e5,_,w5⟩:=DataW.trod_int Tryz.underlying3 h5
   obtain⟨p,cap,l,e6,hl,hc,hr,hin,hs⟩:=open_row (cells:=Ex.cells) (In:=Ex.In w) (size:=Ex.wt) Tryz.underlying43 cExpr (fun m hm=>ih m (by omega)) h6
   obtain rfl:=List.head_eq_of_cons_eq e0
   simp only [Lt.cells,List.cons.injEq,and_true] at e1
   obtain⟨rfl,rfl,rfl⟩:=e1
   obtain rfl:=List.head_eq_of_cons_eq e2
   obtain rfl:=List.head_eq_of_cons_eq e3
   obtain rfl:=List.head_eq_of_cons_eq e4
   obtain rfl:=List.head_eq_of_cons_eq e5
   obtain rfl:=List.head_eq_of_cons_eq e6
   refine⟨.mk op t hd nm hi lo p cap l,rfl,.mk _ w0 w1 w4 w5 w2 w3 hl hc hr hin,?_⟩
   rw [Ex.wt_eq]
   have b2:Rows.uptoBulk x2.1=hd.size+1:=by rw [q2];simp [Rows.uptoBulk]
   have b3:Rows.uptoBulk x3.1=nm.size+1:=by rw [q3];simp [Rows.uptoBulk]
   simp only [List.map_cons,List.map_nil,Rows.uptoBulk,Rows.uptoBulkAll,b2,b3,Ex.head,Ex.name,Ex.args]
   omega
end
theorem wr_in (n:Int) (h:-9223372036854775808≤n∧n≤9223372036854775807):wrap64 n=n:=by unfold wrap64;omega
theorem wr_succ (k n:Nat) (h:k < n) (hn:n≤1048576):wrap64 ((k:Int)+1)=((k+1:Nat):Int):=by
 rw [wr_in _ (by omega)]
 simp
theorem step_less (k n:Nat) (h:k < n) (ha:wrap64 ((k:Int)+1)=((k+1:Nat):Int)):n - (intOf (.int .i64 (wrap64 ((k:Int)+1)))).toNat < n - (intOf (.int .i64 (k:Int))).toNat:=by
 rw [ha]
 simp only [intOf,Int.toNat_natCast]
 omega
theorem CellsAt.c0 {w:World} {a:Addr} {cs:List Value} (h:CellsAt w a cs) (v:Value) (hj:cs[0]?=some v):w.cell? a=some v:=h 0 v hj
theorem CellsAt.cs {w:World} {a:Addr} {cs:List Value} (h:CellsAt w a cs) (j:Nat) (v:Value) (hj:cs[j+1]?=some v):w.cell? ⟨a.block,a.off+(j+1),none⟩=some v:=h (j+1) v hj
theorem sum_take_succ {α:Type} (f:α→Nat) (l:List α) (k:Nat) (x:α) (h:l[k]?=some x):((l.take (k+1)).map f).sum=((l.take k).map f).sum+f x:=by
 rw [List.take_add_one,h]
 simp
theorem sum_take_le {α:Type} (f:α→Nat) (l:List α) (k:Nat):((l.take k).map f).sum≤(l.map f).sum:=by
 have:(l.map f).sum=((l.take k).map f).sum+((l.drop k).map f).sum:=by
  rw [← List.sum_append,← List.map_append,List.take_append_drop]
 omega
theorem length_le_sum {α:Type} (f:α→Nat) (hf:∀ x,1≤f x):∀ l:List α,l.length≤(l.map f).sum
 | []=>by simp
 | x :: l=>by have:=length_le_sum f hf l;have:=hf x;simp;omega
theorem Ex.wt_pos (e:Ex):1≤e.wt:=by rw [Ex.wt_eq];omega
theorem le_sum_of {α:Type} (f:α→Nat) (l:List α) (x:α) (h:x ∈ l):f x≤(l.map f).sum:=by
 obtain⟨k,hk⟩:=List.mem_iff_getElem?.1 h
 have:=sum_take_succ f l k x hk
 have:=sum_take_le f l (k+1)
 omega
/-- So many, and what the first k of a list bear. -/
def tally {α:Type} (f:α→Nat) (m:Nat) (l:List α) (k:Nat):Nat:=m+((l.take k).map f).sum
theorem tally_zero {α:Type} (f:α→Nat) (m:Nat) (l:List α):tally f m l 0=m:=by simp [tally]
theorem tally_succ {α:Type} (f:α→Nat) (m:Nat) (l:List α) (k:Nat) (x:α) (h:l[k]?=some x):tally f m l (k+1)=tally f m l k+f x:=by
 unfold tally
 rw [sum_take_succ f l k x h]
 omega
theorem tally_le {α:Type} (f:α→Nat) (m:Nat) (l:List α) (k:Nat):tally f m l k≤m+(l.map f).sum:=by
 have:=sum_take_le f l k
 unfold tally
 omega
theorem tally_all {α:Type} (f:α→Nat) (m:Nat) (l:List α) (k:Nat) (h:l.length=k):tally f m l k=m+(l.map f).sum:=by
 unfold tally
 rw [List.take_of_length_le (by omega)]
set_option maxHeartbeats 8000000 in
theorem ref_weigh:∀ (e:Ex) (w:World),e.In w→e.wt≤1048576→Calls Tryz.prog 14 #[e.val] w fun r w'=>r=.returned (.int .i64 (e.wt:Int))∧∃ x,w'=plus w x:=by
 intro e
 induction e using Ex.ind with
 | _ e ih =>
 intro w hin hb
 obtain⟨op,⟨lw,lh,ll⟩,hd,nm,eh,el,p,cap,args⟩:=e
 obtain⟨_,_,_,_,_,h1,h2,h3,h4,hrow,hkids⟩:=hin
 have hwt:=Ex.wt_eq (.mk op ⟨lw,lh,ll⟩ hd nm eh el p cap args)
 simp only [Ex.args,Ex.head,Ex.name,Ex.p,Ex.cap] at ih h1 h2 h3 h4 hrow hkids hwt
 have hR:∃ R,Ex.wt (.mk op ⟨lw,lh,ll⟩ hd nm eh el p cap args)=R:=⟨_,rfl⟩
 obtain⟨R,hR⟩:=hR
 rw [hR] at hb hwt ⊢
 clear hR
 show Calls Tryz.prog 14 #[.agg #[.int .u8 op,.int .i64 lw,.int .u64 lh,.int .u64 ll,.string hd,.string nm,.int .i64 eh,.int .i64 el,.slice p args.length cap]] w _
 have hn:∃ n,args.length=n:=⟨_,rfl⟩
 obtain⟨n,hn⟩:=hn
 rw [hn]
 have ih':=Lib.hid ih
 have hrow':=Lib.hid hrow
 have hkids':=Lib.hid hkids
 have hwt':=Lib.hid hwt
 have hb':=Lib.hid hb
 have hn':=Lib.hid hn
 have hl:n≤1048576:=by have:=length_le_sum Ex.wt Ex.wt_pos args;omega
 have hl':=Lib.hid hl
 clear hl ih hrow hkids hwt hb hn h1 h2 h3 h4
 go_enter Tryz.func14,Tryz.ntmps14
 go_wp2
 obtain⟨W,hW,hB,hs,ca,fa⟩:=box1 w _ 45
 rw [← hW]
 have c8:=ca 8 (some (.slice p n cap)) rfl
 obtain⟨z,hz⟩:=plus_of_below hB
 have hN:wrap64 (wrap64 (1+(hd.size:Int))+(nm.size:Int))=(tally Ex.wt (1+hd.size+nm.size) args 0:Int):=by
  have a1:=hwt'.out
  have a2:=hb'.out
  rw [wr_in (1+(hd.size:Int)) (by omega),wr_in _ (by omega),tally_zero]
  omega
 rw [hN]
 have hz':=Lib.hid hz
 clear hW ca fa hz hN
 go_loopw [3,4] (fun nv iv wr=>∃ k:Nat,k≤n∧iv=.int .i64 (k:Int)∧nv=.int .i64 (tally Ex.wt (1+hd.size+nm.size) args k:Int)∧∃ y,wr=plus W y) (fun _ iv _=>n - (intOf iv).toNat)
 case atStart=>exact⟨0,Nat.zero_le _,rfl,rfl,⟨#[],W.drawn⟩,(plus_self W).symm⟩
 case round =>
  obtain⟨k,hk,rfl,rfl,y,rfl⟩:=hrel
  by_cases hlt:k < n
  ·obtain⟨e,he⟩:∃ e,args[k]?=some e:=⟨args[k]'(by rw [hn'.out];exact hlt),List.getElem?_eq_getElem _⟩
   obtain⟨a,rfl,hc⟩:=hrow'.out k e he
   have hmem:e ∈ args:=List.mem_of_getElem? he
   have hsum:=tally_succ Ex.wt (1+hd.size+nm.size) args k e he
   have hle:=tally_le Ex.wt (1+hd.size+nm.size) args (k+1)
   have hew:=le_sum_of Ex.wt args e hmem
   have hkid:=fun y=>ih'.out e hmem (plus W y) (by rw [hz'.out,plus_plus];exact (hkids'.out e hmem).plus _) (by have:=hwt'.out;have:=hb'.out;omega)
   have hkid':=Lib.hid hkid
   have hc':∀ y,CellsAt (plus W y) (a.add (k*9)) e.cells:=fun y=>by rw [hz'.out,plus_plus];exact hc.plus _
   have d0:=fun y=>(hc' y).c0 _ rfl
   have d1:=fun y=>(hc' y).cs 0 _ rfl
   have d2:=fun y=>(hc' y).cs 1 _ rfl
   have d3:=fun y=>(hc' y).cs 2 _ rfl
   have d4:=fun y=>(hc' y).cs 3 _ rfl
   have d5:=fun y=>(hc' y).cs 4 _ rfl
   have d6:=fun y=>(hc' y).cs 5 _ rfl
   have d7:=fun y=>(hc' y).cs 6 _ rfl
   have d8:=fun y=>(hc' y).cs 7 _ rfl
   have hsum':=Lib.hid hsum
   have hle':=Lib.hid hle
   clear hc' hc hsum hle hew hkid hmem he
   go_wp2_with (go_at_call 14;refine (hkid'.out _).mono ?_;rintro r w' ⟨rfl,x,rfl⟩)
   have a1:=hwt'.out
   have a2:=hb'.out
   have a3:=hsum'.out
   have a4:=hle'.out
   have a6:=wr_succ k n hlt hl'.out
   have a7:wrap64 ((tally Ex.wt (1+hd.size+nm.size) args k:Int)+(e.wt:Int))=(tally Ex.wt (1+hd.size+nm.size) args (k+1):Int):=by
    rw [wr_in _ (by omega),a3]
    simp
   clear a1 a2 a3 a4
   go_roundw
   case rel=>exact⟨k+1,hlt,congrArg (Value.int .i64) a6,congrArg (Value.int .i64) a7,_,plus_plus W y x⟩
   case measure=>exact step_less k n hlt a6
  ·obtain rfl:k=n:=by omega
   have hR:(tally Ex.wt (1+hd.size+nm.size) args k:Int)=(R:Int):=by
    have:=hwt'.out
    rw [tally_all Ex.wt _ args k hn'.out]
    omega
   have hR':=Lib.hid hR
   clear hR
   go_wp2
   go_ret
   exact⟨congrArg (fun z=>Ending.returned (Value.int .i64 z)) hR'.out,pp hz'.out⟩
end Go.Proofs.YtobhijbncchpiaaGreat
namespace Go.Proofs.YtobhijbncchpiaaGreat
open Go.ChangeShapes Go.WideShapes Go.RowKit Go.Deep
/-- A slice that came in, of things of ours. -/
structure Sl (α:Type) where
 p:Option Addr
 cap:Nat
 l:List α
def Sl.v {α:Type} (s:Sl α):Value:=.slice s.p s.l.length s.cap
structure Sl.In {α:Type} (w:World) (C:Nat) (cells:α→List Value) (K:α→Prop) (s:Sl α):Prop where
 len:s.l.length≤s.cap
 cap:s.cap≤maxLen
 row:RowAt w C cells s.p s.l
 kids:∀ y ∈ s.l,K y
theorem Sl.In.plus {α:Type} {w:World} {C:Nat} {cells:α→List Value} {In In':α→Prop} {s:Sl α} (h:s.In w C cells In) (hi:∀ y,In y→In' y) (x:Ext):s.In (plus w x) C cells In' :=
 ⟨h.len,h.cap,h.row.plus x,fun y hy=>hi y (h.kids y hy)⟩
def Sl.size {α:Type} (f:α→Nat) (s:Sl α):Nat:=(s.l.map f).sum
def strCells (s:ByteArray):List Value:=[.string s]
def strOk (s:ByteArray):Prop:=s.size≤maxLen
def strSize (s:ByteArray):Nat:=s.size+1
section
variable {H:Type} {enc:TypeId × Value→H} {w:World} {base:Nat} {spare:Nat→Bool} {held:Bool}
theorem open_sl {P:Program} {t e:TypeId} {C fuel:Nat} {α:Type} {cells:α→List Value} {In:α→Prop} {size:α→Nat} {cs:List Value} {x:DataW H × List MemPlace} (ht:P.underlying t=some (.slice e)) (hC:P.cellsOf e=C)
  (ho:∀ n,n < fuel→Opens enc P w base spare held n e cells In size) (h:DataW.trod enc P w base spare held fuel t cs=some x) :
  ∃ s:Sl α,cs=[s.v]∧s.In w C cells In∧s.size size+1≤Rows.uptoBulk x.1:=by
 obtain⟨p,cap,l,h1,h2,h3,h4,h5,h6⟩:=open_row ht hC ho h
 exact⟨⟨p,cap,l⟩,h1,⟨h2,h3,h4,h5⟩,h6⟩
theorem open_str {fuel:Nat}:Opens enc Tryz.prog w base spare held fuel 9 strCells strOk strSize:=by
 intro cs x h
 obtain⟨s,e,q,hs⟩:=DataW.trod_string Tryz.underlying9 h
 exact⟨s,e,hs,by rw [q];simp [Rows.uptoBulk,strSize]⟩
theorem cB:Tryz.prog.cellsOf 4=1:=by kernel_rfl
end
/-- A field. -/
structure Fd where
 name:ByteArray
 w:Int
def Fd.cells (x:Fd):List Value:=[.string x.name,.int .i64 x.w]
structure Fd.In (w:World) (x:Fd):Prop where
 name:x.name.size≤maxLen
 w:(Lit.int .i64 x.w).wf=true
def Fd.sz (x:Fd):Nat:=1+x.name.size
theorem Fd.In.plus {w:World} {s:Fd} (h:s.In w) (_:Ext):s.In (plus w ‹Ext›):=⟨h.name,h.w⟩
theorem cFd:Tryz.prog.cellsOf 87=2:=by kernel_rfl
section
variable {H:Type} {enc:TypeId × Value→H} {w:World} {base:Nat} {spare:Nat→Bool} {held:Bool}
set_option maxRecDepth 100000 in
theorem open_Fd {fuel:Nat}:Opens enc Tryz.prog w base spare held fuel 87 Fd.cells (Fd.In w) Fd.sz:=by
 intro cs x h
 obtain⟨xs,n,rfl,rfl,hcl,hxl,hf⟩:=DataW.trod_struct (P:=Tryz.prog) Tryz.underlying87 h
 have hcl':cs.length=2:=hcl.trans cFd
 clear hcl h
 match cs,hcl' with
 | [c0,c1],_ =>
  match xs,hxl with
  | [x0,x1],_ =>
   have h0:DataW.trod enc Tryz.prog w base spare held n 9 [c0]=some x0:=by simpa [cS] using hf 0 _ rfl
   obtain⟨v0,e0,q0,w0⟩:=DataW.trod_string Tryz.underlying9 h0
   obtain rfl:=List.head_eq_of_cons_eq e0
   have b0:Rows.uptoBulk x0.1=v0.size+1:=by rw [q0];simp [Rows.uptoBulk]
   have h1:DataW.trod enc Tryz.prog w base spare held n 3 [c1]=some x1:=by simpa [cI] using hf 1 _ rfl
   obtain⟨v1,e1,q1,w1⟩:=DataW.trod_int Tryz.underlying3 h1
   obtain rfl:=List.head_eq_of_cons_eq e1
   refine⟨⟨v0,v1⟩,rfl,⟨w0,w1⟩,?_⟩
   simp only [List.map_cons,List.map_nil,Rows.uptoBulk,Rows.uptoBulkAll,Fd.sz,b0]
   omega
end
/-- A header. -/
structure Hr where
 name:ByteArray
 fields:Sl Fd
def Hr.cells (x:Hr):List Value:=[.string x.name,x.fields.v]
structure Hr.In (w:World) (x:Hr):Prop where
 name:x.name.size≤maxLen
 fields:x.fields.In w 2 Fd.cells (Fd.In w)
def Hr.sz (x:Hr):Nat:=1+x.name.size+x.fields.size Fd.sz
theorem Hr.In.plus {w:World} {s:Hr} (h:s.In w) (x:Ext):s.In (plus w x):=⟨h.name,h.fields.plus (fun _ a=>a.plus x) x⟩
theorem cHr:Tryz.prog.cellsOf 66=2:=by kernel_rfl
theorem cSlFd:Tryz.prog.cellsOf 23=1:=by kernel_rfl
section
variable {H:Type} {enc:TypeId × Value→H} {w:World} {base:Nat} {spare:Nat→Bool} {held:Bool}
set_option maxRecDepth 100000 in
theorem open_Hr {fuel:Nat}:Opens enc Tryz.prog w base spare held fuel 66 Hr.cells (Hr.In w) Hr.sz:=by
 intro cs x h
 obtain⟨xs,n,rfl,rfl,hcl,hxl,hf⟩:=DataW.trod_struct (P:=Tryz.prog) Tryz.underlying66 h
 have hcl':cs.length=2:=hcl.trans cHr
 clear hcl h
 match cs,hcl' with
 | [c0,c1],_ =>
  match xs,hxl with
  | [x0,x1],_ =>
   have h0:DataW.trod enc Tryz.prog w base spare held n 9 [c0]=some x0:=by simpa [cS] using hf 0 _ rfl
   obtain⟨v0,e0,q0,w0⟩:=DataW.trod_string Tryz.underlying9 h0
   obtain rfl:=List.head_eq_of_cons_eq e0
   have b0:Rows.uptoBulk x0.1=v0.size+1:=by rw [q0];simp [Rows.uptoBulk]
   have h1:DataW.trod enc Tryz.prog w base spare held n 23 [c1]=some x1:=by simpa [cSlFd] using hf 1 _ rfl
   obtain⟨v1,e1,w1,z1⟩:=open_sl (cells:=Fd.cells) (In:=(Fd.In w)) (size:=Fd.sz) Tryz.underlying23 cFd (fun _ _=>open_Fd) h1
   obtain rfl:=List.head_eq_of_cons_eq e1
   refine⟨⟨v0,v1⟩,rfl,⟨w0,w1⟩,?_⟩
   simp only [List.map_cons,List.map_nil,Rows.uptoBulk,Rows.uptoBulkAll,Hr.sz,b0]
   omega
end
/-- A set. -/
structure Se where
 kind:Int
 v:Lt
 m:Lt
def Se.cells (x:Se):List Value:=[.int .u8 x.kind,.int .i64 x.v.w,.int .u64 x.v.h,.int .u64 x.v.l,.int .i64 x.m.w,.int .u64 x.m.h,.int .u64 x.m.l]
structure Se.In (w:World) (x:Se):Prop where
 kind:(Lit.int .u8 x.kind).wf=true
 v:Lt.Ok x.v
 m:Lt.Ok x.m
def Se.sz (_:Se):Nat:=1
theorem Se.In.plus {w:World} {s:Se} (h:s.In w) (_:Ext):s.In (plus w ‹Ext›):=⟨h.kind,h.v,h.m⟩
theorem cSe:Tryz.prog.cellsOf 162=7:=by kernel_rfl
section
variable {H:Type} {enc:TypeId × Value→H} {w:World} {base:Nat} {spare:Nat→Bool} {held:Bool}
set_option maxRecDepth 100000 in
theorem open_Se {fuel:Nat}:Opens enc Tryz.prog w base spare held fuel 162 Se.cells (Se.In w) Se.sz:=by
 intro cs x h
 obtain⟨xs,n,rfl,rfl,hcl,hxl,hf⟩:=DataW.trod_struct (P:=Tryz.prog) Tryz.underlying162 h
 have hcl':cs.length=7:=hcl.trans cSe
 clear hcl h
 match cs,hcl' with
 | [c0,c1,c2,c3,c4,c5,c6],_ =>
  match xs,hxl with
  | [x0,x1,x2],_ =>
   have h0:DataW.trod enc Tryz.prog w base spare held n 5 [c0]=some x0:=by simpa [cU8] using hf 0 _ rfl
   obtain⟨v0,e0,q0,w0⟩:=DataW.trod_int Tryz.underlying5 h0
   obtain rfl:=List.head_eq_of_cons_eq e0
   have h1:DataW.trod enc Tryz.prog w base spare held n 42 [c1,c2,c3]=some x1:=by simpa [cLit] using hf 1 _ rfl
   obtain⟨v1,e1,w1,z1⟩:=open_lit _ _ h1
   simp only [Lt.cells,List.cons.injEq,and_true] at e1
   obtain⟨rfl,rfl,rfl⟩:=e1
   have h2:DataW.trod enc Tryz.prog w base spare held n 42 [c4,c5,c6]=some x2:=by simpa [cLit] using hf 2 _ rfl
   obtain⟨v2,e2,w2,z2⟩:=open_lit _ _ h2
   simp only [Lt.cells,List.cons.injEq,and_true] at e2
   obtain⟨rfl,rfl,rfl⟩:=e2
   refine⟨⟨v0,v1,v2⟩,rfl,⟨w0,w1,w2⟩,?_⟩
   simp only [List.map_cons,List.map_nil,Rows.uptoBulk,Rows.uptoBulkAll,Se.sz]
   omega
end
/-- A case. -/
structure Ca where
 dflt:Bool
 sets:Sl Se
 to:ByteArray
def Ca.cells (x:Ca):List Value:=[.bool x.dflt,x.sets.v,.string x.to]
structure Ca.In (w:World) (x:Ca):Prop where
 dflt:True
 sets:x.sets.In w 7 Se.cells (Se.In w)
 to:x.to.size≤maxLen
def Ca.sz (x:Ca):Nat:=1+x.sets.size Se.sz+x.to.size
theorem Ca.In.plus {w:World} {s:Ca} (h:s.In w) (x:Ext):s.In (plus w x):=⟨h.dflt,h.sets.plus (fun _ a=>a.plus x) x,h.to⟩
theorem cCa:Tryz.prog.cellsOf 70=3:=by kernel_rfl
theorem cSlSe:Tryz.prog.cellsOf 68=1:=by kernel_rfl
section
variable {H:Type} {enc:TypeId × Value→H} {w:World} {base:Nat} {spare:Nat→Bool} {held:Bool}
set_option maxRecDepth 100000 in
theorem open_Ca {fuel:Nat}:Opens enc Tryz.prog w base spare held fuel 70 Ca.cells (Ca.In w) Ca.sz:=by
 intro cs x h
 obtain⟨xs,n,rfl,rfl,hcl,hxl,hf⟩:=DataW.trod_struct (P:=Tryz.prog) Tryz.underlying70 h
 have hcl':cs.length=3:=hcl.trans cCa
 clear hcl h
 match cs,hcl' with
 | [c0,c1,c2],_ =>
  match xs,hxl with
  | [x0,x1,x2],_ =>
   have h0:DataW.trod enc Tryz.prog w base spare held n 4 [c0]=some x0:=by simpa [cB] using hf 0 _ rfl
   obtain⟨v0,e0,q0⟩:=DataW.trod_bool Tryz.underlying4 h0
   have w0:=True.intro
   obtain rfl:=List.head_eq_of_cons_eq e0
   have h1:DataW.trod enc Tryz.prog w base spare held n 68 [c1]=some x1:=by simpa [cSlSe] using hf 1 _ rfl
   obtain⟨v1,e1,w1,z1⟩:=open_sl (cells:=Se.cells) (In:=(Se.In w)) (size:=Se.sz) Tryz.underlying68 cSe (fun _ _=>open_Se) h1
   obtain rfl:=List.head_eq_of_cons_eq e1
   have h2:DataW.trod enc Tryz.prog w base spare held n 9 [c2]=some x2:=by simpa [cS] using hf 2 _ rfl
   obtain⟨v2,e2,q2,w2⟩:=DataW.trod_string Tryz.underlying9 h2
   obtain rfl:=List.head_eq_of_cons_eq e2
   have b2:Rows.uptoBulk x2.1=v2.size+1:=by rw [q2];simp [Rows.uptoBulk]
   refine⟨⟨v0,v1,v2⟩,rfl,⟨w0,w1,w2⟩,?_⟩
   simp only [List.map_cons,List.map_nil,Rows.uptoBulk,Rows.uptoBulkAll,Ca.sz,b2]
   omega
end
/-- A state. -/
structure Sa where
 name:ByteArray
 takes:Sl ByteArray
 to:ByteArray
 keys:Sl Ex
 cases:Sl Ca
def Sa.cells (x:Sa):List Value:=[.string x.name,x.takes.v,.string x.to,x.keys.v,x.cases.v]
structure Sa.In (w:World) (x:Sa):Prop where
 name:x.name.size≤maxLen
 takes:x.takes.In w 1 strCells strOk
 to:x.to.size≤maxLen
 keys:x.keys.In w 9 Ex.cells (Ex.In w)
 cases:x.cases.In w 3 Ca.cells (Ca.In w)
def Sa.sz (x:Sa):Nat:=1+x.name.size+x.takes.size strSize+x.to.size+x.keys.size Ex.wt+x.cases.size Ca.sz
theorem Sa.In.plus {w:World} {s:Sa} (h:s.In w) (x:Ext):s.In (plus w x):=⟨h.name,h.takes.plus (fun _ a=>a) x,h.to,h.keys.plus (fun _ a=>a.plus x) x,h.cases.plus (fun _ a=>a.plus x) x⟩
theorem cSa:Tryz.prog.cellsOf 61=5:=by kernel_rfl
theorem cSlStr:Tryz.prog.cellsOf 28=1:=by kernel_rfl
theorem cSlCa:Tryz.prog.cellsOf 59=1:=by kernel_rfl
section
variable {H:Type} {enc:TypeId × Value→H} {w:World} {base:Nat} {spare:Nat→Bool} {held:Bool}
set_option maxRecDepth 100000 in
theorem open_Sa {fuel:Nat}:Opens enc Tryz.prog w base spare held fuel 61 Sa.cells (Sa.In w) Sa.sz:=by
 intro cs x h
 obtain⟨xs,n,rfl,rfl,hcl,hxl,hf⟩:=DataW.trod_struct (P:=Tryz.prog) Tryz.underlying61 h
 have hcl':cs.length=5:=hcl.trans cSa
 clear hcl h
 match cs,hcl' with
 | [c0,c1,c2,c3,c4],_ =>
  match xs,hxl with
  | [x0,x1,x2,x3,x4],_ =>
   have h0:DataW.trod enc Tryz.prog w base spare held n 9 [c0]=some x0:=by simpa [cS] using hf 0 _ rfl
   obtain⟨v0,e0,q0,w0⟩:=DataW.trod_string Tryz.underlying9 h0
   obtain rfl:=List.head_eq_of_cons_eq e0
   have b0:Rows.uptoBulk x0.1=v0.size+1:=by rw [q0];simp [Rows.uptoBulk]
   have h1:DataW.trod enc Tryz.prog w base spare held n 28 [c1]=some x1:=by simpa [cSlStr] using hf 1 _ rfl
   obtain⟨v1,e1,w1,z1⟩:=open_sl (cells:=strCells) (In:=strOk) (size:=strSize) Tryz.underlying28 cS (fun _ _=>open_str) h1
   obtain rfl:=List.head_eq_of_cons_eq e1
   have h2:DataW.trod enc Tryz.prog w base spare held n 9 [c2]=some x2:=by simpa [cS] using hf 2 _ rfl
   obtain⟨v2,e2,q2,w2⟩:=DataW.trod_string Tryz.underlying9 h2
   obtain rfl:=List.head_eq_of_cons_eq e2
   have b2:Rows.uptoBulk x2.1=v2.size+1:=by rw [q2];simp [Rows.uptoBulk]
   have h3:DataW.trod enc Tryz.prog w base spare held n 43 [c3]=some x3:=by simpa [cExprs] using hf 3 _ rfl
   obtain⟨v3,e3,w3,z3⟩:=open_sl (cells:=Ex.cells) (In:=(Ex.In w)) (size:=Ex.wt) Tryz.underlying43 cExpr (fun _ _=>open_ex _) h3
   obtain rfl:=List.head_eq_of_cons_eq e3
   have h4:DataW.trod enc Tryz.prog w base spare held n 59 [c4]=some x4:=by simpa [cSlCa] using hf 4 _ rfl
   obtain⟨v4,e4,w4,z4⟩:=open_sl (cells:=Ca.cells) (In:=(Ca.In w)) (size:=Ca.sz) Tryz.underlying59 cCa (fun _ _=>open_Ca) h4
   obtain rfl:=List.head_eq_of_cons_eq e4
   refine⟨⟨v0,v1,v2,v3,v4⟩,rfl,⟨w0,w1,w2,w3,w4⟩,?_⟩
   simp only [List.map_cons,List.map_nil,Rows.uptoBulk,Rows.uptoBulkAll,Sa.sz,b0,b2]
   omega
end
/-- A statement. -/
inductive St where
 | mk (kind:Int) (head name:ByteArray) (e:Ex) (p:Option Addr) (cap:Nat) (thn:List St) (q:Option Addr) (cbp:Nat) (els:List St)
def St.kind:St→Int | .mk k _ _ _ _ _ _ _ _ _=>k
def St.head:St→ByteArray | .mk _ s _ _ _ _ _ _ _ _=>s
def St.name:St→ByteArray | .mk _ _ s _ _ _ _ _ _ _=>s
def St.e:St→Ex | .mk _ _ _ e _ _ _ _ _ _=>e
def St.p:St→Option Addr | .mk _ _ _ _ p _ _ _ _ _=>p
def St.cap:St→Nat | .mk _ _ _ _ _ c _ _ _ _=>c
def St.thn:St→List St | .mk _ _ _ _ _ _ l _ _ _=>l
def St.q:St→Option Addr | .mk _ _ _ _ _ _ _ q _ _=>q
def St.cbp:St→Nat | .mk _ _ _ _ _ _ _ _ c _=>c
def St.els:St→List St | .mk _ _ _ _ _ _ _ _ _ l=>l
def St.cells (s:St):List Value:=[.int .u8 s.kind,.string s.head,.string s.name,.int .u8 s.e.op,.int .i64 s.e.lit.w,.int .u64 s.e.lit.h,.int .u64 s.e.lit.l,.string s.e.head,.string s.e.name,.int .i64 s.e.hi,.int .i64 s.e.lo,.slice s.e.p s.e.args.length s.e.cap,.slice s.p s.thn.length s.cap,.slice s.q s.els.length s.cbp]
theorem St.ind {Q:St→Prop} (h:∀ s:St,(∀ x ∈ s.thn,Q x)→(∀ x ∈ s.els,Q x)→Q s):∀ s,Q s:=fun s =>
 St.rec (motive_1:=Q) (motive_2:=fun l=>∀ x ∈ l,Q x) (fun _ _ _ _ _ _ _ _ _ _ i1 i2=>h _ i1 i2) (fun x hx=>by simp at hx) (fun _ _ h1 h2 x hx=>by
  rcases List.mem_cons.1 hx with rfl | hx
  ·exact h1
  ·exact h2 x hx) s
mutual
/-- How many nodes and bytes it has. -/
def St.sz:St→Nat
 | .mk _ hd nm e _ _ thn _ _ els=>1+hd.size+nm.size+e.wt+St.szs thn+St.szs els
def St.szs:List St→Nat
 | []=>0
 | e :: l=>e.sz+St.szs l
end
theorem St.szs_sum:∀ l:List St,St.szs l=(l.map St.sz).sum
 | []=>by simp [St.szs]
 | e :: l=>by simp [St.szs,St.szs_sum l]
theorem St.sz_eq (s:St):s.sz=1+s.head.size+s.name.size+s.e.wt+(s.thn.map St.sz).sum+(s.els.map St.sz).sum:=by
 cases s;simp [St.sz,St.szs_sum,St.head,St.name,St.e,St.thn,St.els]
/-- It lies in memory. -/
inductive St.In (w:World):St→Prop where
 | mk (s:St) (kind:(Lit.int .u8 s.kind).wf=true) (hd:s.head.size≤maxLen) (nm:s.name.size≤maxLen) (e:s.e.In w)
   (len:s.thn.length≤s.cap) (cap:s.cap≤maxLen) (row:RowAt w 14 St.cells s.p s.thn) (kids:∀ x ∈ s.thn,St.In w x)
   (len2:s.els.length≤s.cbp) (cap2:s.cbp≤maxLen) (row2:RowAt w 14 St.cells s.q s.els) (kids2:∀ x ∈ s.els,St.In w x):St.In w s
theorem St.In.plus {w:World} {s:St} (h:s.In w) (x:Ext):s.In (plus w x):=by
 induction h with
 | mk s k hd nm e l c r _ l2 c2 r2 _ ih ih2=>exact .mk s k hd nm (e.plus x) l c (r.plus x) ih l2 c2 (r2.plus x) ih2
theorem cSt:Tryz.prog.cellsOf 47=14:=by kernel_rfl
theorem cSlSt:Tryz.prog.cellsOf 27=1:=by kernel_rfl
section
variable {H:Type} {enc:TypeId × Value→H} {w:World} {base:Nat} {spare:Nat→Bool} {held:Bool}
set_option maxRecDepth 100000 in
theorem open_St:∀ fuel:Nat,Opens enc Tryz.prog w base spare held fuel 47 St.cells (St.In w) St.sz:=by
 intro fuel
 induction fuel using Nat.strongRecOn with
 | ind fuel ih =>
 intro cs x h
 obtain⟨xs,n,rfl,rfl,hcl,hxl,hf⟩:=DataW.trod_struct (P:=Tryz.prog) Tryz.underlying47 h
 have hcl':cs.length=14:=hcl.trans cSt
 clear hcl h
 match cs,hcl' with
 | [c0,c1,c2,c3,c4,c5,c6,c7,c8,c9,c10,c11,c12,c13],_ =>
  match xs,hxl with
  | [x0,x1,x2,x3,x4,x5],_ =>
   have h0:DataW.trod enc Tryz.prog w base spare held n 5 [c0]=some x0:=by simpa [cU8] using hf 0 _ rfl
   obtain⟨v0,e0,q0,w0⟩:=DataW.trod_int Tryz.underlying5 h0
   obtain rfl:=List.head_eq_of_cons_eq e0
   have h1:DataW.trod enc Tryz.prog w base spare held n 9 [c1]=some x1:=by simpa [cS] using hf 1 _ rfl
   obtain⟨v1,e1,q1,w1⟩:=DataW.trod_string Tryz.underlying9 h1
   obtain rfl:=List.head_eq_of_cons_eq e1
   have b1:Rows.uptoBulk x1.1=v1.size+1:=by rw [q1];simp [Rows.uptoBulk]
   have h2:DataW.trod enc Tryz.prog w base spare held n 9 [c2]=some x2:=by simpa [cS] using hf 2 _ rfl
   obtain⟨v2,e2,q2,w2⟩:=DataW.trod_string Tryz.underlying9 h2
   obtain rfl:=List.head_eq_of_cons_eq e2
   have b2:Rows.uptoBulk x2.1=v2.size+1:=by rw [q2];simp [Rows.uptoBulk]
   have h3:DataW.trod enc Tryz.prog w base spare held n 45 [c3,c4,c5,c6,c7,c8,c9,c10,c11]=some x3:=by simpa [cExpr] using hf 3 _ rfl
   obtain⟨v3,e3,w3,z3⟩:=open_ex _ _ _ h3
   simp only [Ex.cells,List.cons.injEq,and_true] at e3
   obtain⟨rfl,rfl,rfl,rfl,rfl,rfl,rfl,rfl,rfl⟩:=e3
   have h4:DataW.trod enc Tryz.prog w base spare held n 27 [c12]=some x4:=by simpa [cSlSt] using hf 4 _ rfl
   obtain⟨v4,e4,w4,z4⟩:=open_sl (cells:=St.cells) (In:=(St.In w)) (size:=St.sz) Tryz.underlying27 cSt (fun m hm=>ih m (by omega)) h4
   obtain rfl:=List.head_eq_of_cons_eq e4
   have h5:DataW.trod enc Tryz.prog w base spare held n 27 [c13]=some x5:=by simpa [cSlSt] using hf 5 _ rfl
   obtain⟨v5,e5,w5,z5⟩:=open_sl (cells:=St.cells) (In:=(St.In w)) (size:=St.sz) Tryz.underlying27 cSt (fun m hm=>ih m (by omega)) h5
   obtain rfl:=List.head_eq_of_cons_eq e5
   refine⟨.mk v0 v1 v2 v3 v4.p v4.cap v4.l v5.p v5.cap v5.l,rfl,.mk _ w0 w1 w2 w3 w4.len w4.cap w4.row w4.kids w5.len w5.cap w5.row w5.kids,?_⟩
   rw [St.sz_eq]
   unfold Sl.size at z4 z5
   simp only [List.map_cons,List.map_nil,Rows.uptoBulk,Rows.uptoBulkAll,b1,b2,St.head,St.name,St.e,St.thn,St.els]
   omega
end
/-- An action. -/
structure Ac where
 name:ByteArray
 params:Sl Fd
 body:Sl St
def Ac.cells (x:Ac):List Value:=[.string x.name,x.params.v,x.body.v]
structure Ac.In (w:World) (x:Ac):Prop where
 name:x.name.size≤maxLen
 params:x.params.In w 2 Fd.cells (Fd.In w)
 body:x.body.In w 14 St.cells (St.In w)
def Ac.sz (x:Ac):Nat:=1+x.name.size+x.params.size Fd.sz+x.body.size St.sz
theorem Ac.In.plus {w:World} {s:Ac} (h:s.In w) (x:Ext):s.In (plus w x):=⟨h.name,h.params.plus (fun _ a=>a.plus x) x,h.body.plus (fun _ a=>a.plus x) x⟩
theorem cAc:Tryz.prog.cellsOf 72=3:=by kernel_rfl
section
variable {H:Type} {enc:TypeId × Value→H} {w:World} {base:Nat} {spare:Nat→Bool} {held:Bool}
set_option maxRecDepth 100000 in
theorem open_Ac {fuel:Nat}:Opens enc Tryz.prog w base spare held fuel 72 Ac.cells (Ac.In w) Ac.sz:=by
 intro cs x h
 obtain⟨xs,n,rfl,rfl,hcl,hxl,hf⟩:=DataW.trod_struct (P:=Tryz.prog) Tryz.underlying72 h
 have hcl':cs.length=3:=hcl.trans cAc
 clear hcl h
 match cs,hcl' with
 | [c0,c1,c2],_ =>
  match xs,hxl with
  | [x0,x1,x2],_ =>
   have h0:DataW.trod enc Tryz.prog w base spare held n 9 [c0]=some x0:=by simpa [cS] using hf 0 _ rfl
   obtain⟨v0,e0,q0,w0⟩:=DataW.trod_string Tryz.underlying9 h0
   obtain rfl:=List.head_eq_of_cons_eq e0
   have b0:Rows.uptoBulk x0.1=v0.size+1:=by rw [q0];simp [Rows.uptoBulk]
   have h1:DataW.trod enc Tryz.prog w base spare held n 23 [c1]=some x1:=by simpa [cSlFd] using hf 1 _ rfl
   obtain⟨v1,e1,w1,z1⟩:=open_sl (cells:=Fd.cells) (In:=(Fd.In w)) (size:=Fd.sz) Tryz.underlying23 cFd (fun _ _=>open_Fd) h1
   obtain rfl:=List.head_eq_of_cons_eq e1
   have h2:DataW.trod enc Tryz.prog w base spare held n 27 [c2]=some x2:=by simpa [cSlSt] using hf 2 _ rfl
   obtain⟨v2,e2,w2,z2⟩:=open_sl (cells:=St.cells) (In:=(St.In w)) (size:=St.sz) Tryz.underlying27 cSt (fun _ _=>open_St _) h2
   obtain rfl:=List.head_eq_of_cons_eq e2
   refine⟨⟨v0,v1,v2⟩,rfl,⟨w0,w1,w2⟩,?_⟩
   simp only [List.map_cons,List.map_nil,Rows.uptoBulk,Rows.uptoBulkAll,Ac.sz,b0]
   omega
end
/-- A key. -/
structure Ke where
 e:Ex
 kind:Int
def Ke.cells (x:Ke):List Value:=[.int .u8 x.e.op,.int .i64 x.e.lit.w,.int .u64 x.e.lit.h,.int .u64 x.e.lit.l,.string x.e.head,.string x.e.name,.int .i64 x.e.hi,.int .i64 x.e.lo,.slice x.e.p x.e.args.length x.e.cap,.int .u8 x.kind]
structure Ke.In (w:World) (x:Ke):Prop where
 e:(Ex.In w) x.e
 kind:(Lit.int .u8 x.kind).wf=true
def Ke.sz (x:Ke):Nat:=1+Ex.wt x.e
theorem Ke.In.plus {w:World} {s:Ke} (h:s.In w) (x:Ext):s.In (plus w x):=⟨h.e.plus x,h.kind⟩
theorem cKe:Tryz.prog.cellsOf 52=10:=by kernel_rfl
section
variable {H:Type} {enc:TypeId × Value→H} {w:World} {base:Nat} {spare:Nat→Bool} {held:Bool}
set_option maxRecDepth 100000 in
theorem open_Ke {fuel:Nat}:Opens enc Tryz.prog w base spare held fuel 52 Ke.cells (Ke.In w) Ke.sz:=by
 intro cs x h
 obtain⟨xs,n,rfl,rfl,hcl,hxl,hf⟩:=DataW.trod_struct (P:=Tryz.prog) Tryz.underlying52 h
 have hcl':cs.length=10:=hcl.trans cKe
 clear hcl h
 match cs,hcl' with
 | [c0,c1,c2,c3,c4,c5,c6,c7,c8,c9],_ =>
  match xs,hxl with
  | [x0,x1],_ =>
   have h0:DataW.trod enc Tryz.prog w base spare held n 45 [c0,c1,c2,c3,c4,c5,c6,c7,c8]=some x0:=by simpa [cExpr] using hf 0 _ rfl
   obtain⟨v0,e0,w0,z0⟩:=open_ex _ _ _ h0
   simp only [Ex.cells,List.cons.injEq,and_true] at e0
   obtain⟨rfl,rfl,rfl,rfl,rfl,rfl,rfl,rfl,rfl⟩:=e0
   have h1:DataW.trod enc Tryz.prog w base spare held n 5 [c9]=some x1:=by simpa [cU8] using hf 1 _ rfl
   obtain⟨v1,e1,q1,w1⟩:=DataW.trod_int Tryz.underlying5 h1
   obtain rfl:=List.head_eq_of_cons_eq e1
   refine⟨⟨v0,v1⟩,rfl,⟨w0,w1⟩,?_⟩
   simp only [List.map_cons,List.map_nil,Rows.uptoBulk,Rows.uptoBulkAll,Ke.sz]
   omega
end
/-- A call. -/
structure Cl where
 name:ByteArray
 args:Sl Lt
def Cl.cells (x:Cl):List Value:=[.string x.name,x.args.v]
structure Cl.In (w:World) (x:Cl):Prop where
 name:x.name.size≤maxLen
 args:x.args.In w 3 Lt.cells Lt.Ok
def Cl.sz (x:Cl):Nat:=x.name.size+x.args.size (fun _=>1)
theorem Cl.In.plus {w:World} {s:Cl} (h:s.In w) (x:Ext):s.In (plus w x):=⟨h.name,h.args.plus (fun _ a=>a) x⟩
theorem cCl:Tryz.prog.cellsOf 56=2:=by kernel_rfl
theorem cSlLt:Tryz.prog.cellsOf 54=1:=by kernel_rfl
section
variable {H:Type} {enc:TypeId × Value→H} {w:World} {base:Nat} {spare:Nat→Bool} {held:Bool}
set_option maxRecDepth 100000 in
theorem open_Cl {fuel:Nat}:Opens enc Tryz.prog w base spare held fuel 56 Cl.cells (Cl.In w) Cl.sz:=by
 intro cs x h
 obtain⟨xs,n,rfl,rfl,hcl,hxl,hf⟩:=DataW.trod_struct (P:=Tryz.prog) Tryz.underlying56 h
 have hcl':cs.length=2:=hcl.trans cCl
 clear hcl h
 match cs,hcl' with
 | [c0,c1],_ =>
  match xs,hxl with
  | [x0,x1],_ =>
   have h0:DataW.trod enc Tryz.prog w base spare held n 9 [c0]=some x0:=by simpa [cS] using hf 0 _ rfl
   obtain⟨v0,e0,q0,w0⟩:=DataW.trod_string Tryz.underlying9 h0
   obtain rfl:=List.head_eq_of_cons_eq e0
   have b0:Rows.uptoBulk x0.1=v0.size+1:=by rw [q0];simp [Rows.uptoBulk]
   have h1:DataW.trod enc Tryz.prog w base spare held n 54 [c1]=some x1:=by simpa [cSlLt] using hf 1 _ rfl
   obtain⟨v1,e1,w1,z1⟩:=open_sl (cells:=Lt.cells) (In:=Lt.Ok) (size:=(fun _=>1)) Tryz.underlying54 cLit (fun _ _=>open_lit) h1
   obtain rfl:=List.head_eq_of_cons_eq e1
   refine⟨⟨v0,v1⟩,rfl,⟨w0,w1⟩,?_⟩
   simp only [List.map_cons,List.map_nil,Rows.uptoBulk,Rows.uptoBulkAll,Cl.sz,b0]
   omega
end
/-- A table. -/
structure Ta where
 name:ByteArray
 keys:Sl Ke
 actions:Sl ByteArray
 dflt:Cl
def Ta.cells (x:Ta):List Value:=[.string x.name,x.keys.v,x.actions.v,.string x.dflt.name,x.dflt.args.v]
structure Ta.In (w:World) (x:Ta):Prop where
 name:x.name.size≤maxLen
 keys:x.keys.In w 10 Ke.cells (Ke.In w)
 actions:x.actions.In w 1 strCells strOk
 dflt:(Cl.In w) x.dflt
def Ta.sz (x:Ta):Nat:=1+x.name.size+x.keys.size Ke.sz+x.actions.size strSize+Cl.sz x.dflt
theorem Ta.In.plus {w:World} {s:Ta} (h:s.In w) (x:Ext):s.In (plus w x):=⟨h.name,h.keys.plus (fun _ a=>a.plus x) x,h.actions.plus (fun _ a=>a) x,h.dflt.plus x⟩
theorem cTa:Tryz.prog.cellsOf 58=5:=by kernel_rfl
theorem cSlKe:Tryz.prog.cellsOf 53=1:=by kernel_rfl
section
variable {H:Type} {enc:TypeId × Value→H} {w:World} {base:Nat} {spare:Nat→Bool} {held:Bool}
set_option maxRecDepth 100000 in
theorem open_Ta {fuel:Nat}:Opens enc Tryz.prog w base spare held fuel 58 Ta.cells (Ta.In w) Ta.sz:=by
 intro cs x h
 obtain⟨xs,n,rfl,rfl,hcl,hxl,hf⟩:=DataW.trod_struct (P:=Tryz.prog) Tryz.underlying58 h
 have hcl':cs.length=5:=hcl.trans cTa
 clear hcl h
 match cs,hcl' with
 | [c0,c1,c2,c3,c4],_ =>
  match xs,hxl with
  | [x0,x1,x2,x3],_ =>
   have h0:DataW.trod enc Tryz.prog w base spare held n 9 [c0]=some x0:=by simpa [cS] using hf 0 _ rfl
   obtain⟨v0,e0,q0,w0⟩:=DataW.trod_string Tryz.underlying9 h0
   obtain rfl:=List.head_eq_of_cons_eq e0
   have b0:Rows.uptoBulk x0.1=v0.size+1:=by rw [q0];simp [Rows.uptoBulk]
   have h1:DataW.trod enc Tryz.prog w base spare held n 53 [c1]=some x1:=by simpa [cSlKe] using hf 1 _ rfl
   obtain⟨v1,e1,w1,z1⟩:=open_sl (cells:=Ke.cells) (In:=(Ke.In w)) (size:=Ke.sz) Tryz.underlying53 cKe (fun _ _=>open_Ke) h1
   obtain rfl:=List.head_eq_of_cons_eq e1
   have h2:DataW.trod enc Tryz.prog w base spare held n 28 [c2]=some x2:=by simpa [cSlStr] using hf 2 _ rfl
   obtain⟨v2,e2,w2,z2⟩:=open_sl (cells:=strCells) (In:=strOk) (size:=strSize) Tryz.underlying28 cS (fun _ _=>open_str) h2
   obtain rfl:=List.head_eq_of_cons_eq e2
   have h3:DataW.trod enc Tryz.prog w base spare held n 56 [c3,c4]=some x3:=by simpa [cCl] using hf 3 _ rfl
   obtain⟨v3,e3,w3,z3⟩:=open_Cl _ _ h3
   simp only [Cl.cells,List.cons.injEq,and_true] at e3
   obtain⟨rfl,rfl⟩:=e3
   refine⟨⟨v0,v1,v2,v3⟩,rfl,⟨w0,w1,w2,w3⟩,?_⟩
   simp only [List.map_cons,List.map_nil,Rows.uptoBulk,Rows.uptoBulkAll,Ta.sz,b0]
   omega
end
/-- A program. -/
structure Pr where
 headers:Sl Hr
 metas:Sl Fd
 states:Sl Sa
 actions:Sl Ac
 tables:Sl Ta
 control:Sl St
 emit:Sl ByteArray
def Pr.cells (x:Pr):List Value:=[x.headers.v,x.metas.v,x.states.v,x.actions.v,x.tables.v,x.control.v,x.emit.v]
structure Pr.In (w:World) (x:Pr):Prop where
 headers:x.headers.In w 2 Hr.cells (Hr.In w)
 metas:x.metas.In w 2 Fd.cells (Fd.In w)
 states:x.states.In w 5 Sa.cells (Sa.In w)
 actions:x.actions.In w 3 Ac.cells (Ac.In w)
 tables:x.tables.In w 5 Ta.cells (Ta.In w)
 control:x.control.In w 14 St.cells (St.In w)
 emit:x.emit.In w 1 strCells strOk
def Pr.sz (x:Pr):Nat:=x.headers.size Hr.sz+x.metas.size Fd.sz+x.states.size Sa.sz+x.actions.size Ac.sz+x.tables.size Ta.sz+x.control.size St.sz+x.emit.size strSize
theorem Pr.In.plus {w:World} {s:Pr} (h:s.In w) (x:Ext):s.In (plus w x):=⟨h.headers.plus (fun _ a=>a.plus x) x,h.metas.plus (fun _ a=>a.plus x) x,h.states.plus (fun _ a=>a.plus x) x,h.actions.plus (fun _ a=>a.plus x) x,h.tables.plus (fun _ a=>a.plus x) x,h.control.plus (fun _ a=>a.plus x) x,h.emit.plus (fun _ a=>a) x⟩
theorem cPr:Tryz.prog.cellsOf 30=7:=by kernel_rfl
theorem cSlHr:Tryz.prog.cellsOf 22=1:=by kernel_rfl
theorem cSlSa:Tryz.prog.cellsOf 24=1:=by kernel_rfl
theorem cSlAc:Tryz.prog.cellsOf 25=1:=by kernel_rfl
theorem cSlTa:Tryz.prog.cellsOf 26=1:=by kernel_rfl
section
variable {H:Type} {enc:TypeId × Value→H} {w:World} {base:Nat} {spare:Nat→Bool} {held:Bool}
set_option maxRecDepth 100000 in
theorem open_Pr {fuel:Nat}:Opens enc Tryz.prog w base spare held fuel 30 Pr.cells (Pr.In w) Pr.sz:=by
 intro cs x h
 obtain⟨xs,n,rfl,rfl,hcl,hxl,hf⟩:=DataW.trod_struct (P:=Tryz.prog) Tryz.underlying30 h
 have hcl':cs.length=7:=hcl.trans cPr
 clear hcl h
 match cs,hcl' with
 | [c0,c1,c2,c3,c4,c5,c6],_ =>
  match xs,hxl with
  | [x0,x1,x2,x3,x4,x5,x6],_ =>
   have h0:DataW.trod enc Tryz.prog w base spare held n 22 [c0]=some x0:=by simpa [cSlHr] using hf 0 _ rfl
   obtain⟨v0,e0,w0,z0⟩:=open_sl (cells:=Hr.cells) (In:=(Hr.In w)) (size:=Hr.sz) Tryz.underlying22 cHr (fun _ _=>open_Hr) h0
   obtain rfl:=List.head_eq_of_cons_eq e0
   have h1:DataW.trod enc Tryz.prog w base spare held n 23 [c1]=some x1:=by simpa [cSlFd] using hf 1 _ rfl
   obtain⟨v1,e1,w1,z1⟩:=open_sl (cells:=Fd.cells) (In:=(Fd.In w)) (size:=Fd.sz) Tryz.underlying23 cFd (fun _ _=>open_Fd) h1
   obtain rfl:=List.head_eq_of_cons_eq e1
   have h2:DataW.trod enc Tryz.prog w base spare held n 24 [c2]=some x2:=by simpa [cSlSa] using hf 2 _ rfl
   obtain⟨v2,e2,w2,z2⟩:=open_sl (cells:=Sa.cells) (In:=(Sa.In w)) (size:=Sa.sz) Tryz.underlying24 cSa (fun _ _=>open_Sa) h2
   obtain rfl:=List.head_eq_of_cons_eq e2
   have h3:DataW.trod enc Tryz.prog w base spare held n 25 [c3]=some x3:=by simpa [cSlAc] using hf 3 _ rfl
   obtain⟨v3,e3,w3,z3⟩:=open_sl (cells:=Ac.cells) (In:=(Ac.In w)) (size:=Ac.sz) Tryz.underlying25 cAc (fun _ _=>open_Ac) h3
   obtain rfl:=List.head_eq_of_cons_eq e3
   have h4:DataW.trod enc Tryz.prog w base spare held n 26 [c4]=some x4:=by simpa [cSlTa] using hf 4 _ rfl
   obtain⟨v4,e4,w4,z4⟩:=open_sl (cells:=Ta.cells) (In:=(Ta.In w)) (size:=Ta.sz) Tryz.underlying26 cTa (fun _ _=>open_Ta) h4
   obtain rfl:=List.head_eq_of_cons_eq e4
   have h5:DataW.trod enc Tryz.prog w base spare held n 27 [c5]=some x5:=by simpa [cSlSt] using hf 5 _ rfl
   obtain⟨v5,e5,w5,z5⟩:=open_sl (cells:=St.cells) (In:=(St.In w)) (size:=St.sz) Tryz.underlying27 cSt (fun _ _=>open_St _) h5
   obtain rfl:=List.head_eq_of_cons_eq e5
   have h6:DataW.trod enc Tryz.prog w base spare held n 28 [c6]=some x6:=by simpa [cSlStr] using hf 6 _ rfl
   obtain⟨v6,e6,w6,z6⟩:=open_sl (cells:=strCells) (In:=strOk) (size:=strSize) Tryz.underlying28 cS (fun _ _=>open_str) h6
   obtain rfl:=List.head_eq_of_cons_eq e6
   refine⟨⟨v0,v1,v2,v3,v4,v5,v6⟩,rfl,⟨w0,w1,w2,w3,w4,w5,w6⟩,?_⟩
   simp only [List.map_cons,List.map_nil,Rows.uptoBulk,Rows.uptoBulkAll,Pr.sz]
   omega
end
/-- Called with these in whatever world that has more than this one: this is handed back, and the world has blocks and draws of the call's own. -/
abbrev PureIn (P:Program) (w:World) (f:FuncId) (args:Array Value) (v:Value):Prop:=∀ y,Calls P f args (plus w y) fun e w'=>e=.returned v∧∃ x,w'=plus w x
theorem strSize_pos (s:ByteArray):1≤strSize s:=by unfold strSize;omega
theorem Fd.sz_pos (s:Fd):1≤s.sz:=by unfold Fd.sz;omega
theorem sum_strSize:∀ l:List ByteArray,(l.map strSize).sum=(l.map ByteArray.size).sum+l.length
 | []=>rfl
 | a :: l=>by
  have:=sum_strSize l
  simp only [List.map_cons,List.sum_cons,List.length_cons,strSize]
  omega
theorem sum_fdSize:∀ l:List Fd,(l.map Fd.sz).sum=(l.map fun x=>x.name.size).sum+l.length
 | []=>rfl
 | a :: l=>by
  have:=sum_fdSize l
  simp only [List.map_cons,List.sum_cons,List.length_cons,Fd.sz]
  omega
set_option maxHeartbeats 8000000 in
theorem ref_names (L:Sl ByteArray) (w:World) (hin:L.In w 1 strCells strOk) (hb:L.size strSize≤1048576):PureIn Tryz.prog w 13 #[L.v] (.int .i64 (L.size strSize:Int)):=by
 intro y0
 obtain⟨p,cap,l⟩:=L
 obtain⟨h1,h2,hrow,_⟩:=hin
 simp only [Sl.size,Sl.v] at hb h1 hrow ⊢
 have hn:∃ n,l.length=n:=⟨_,rfl⟩
 obtain⟨n,hn⟩:=hn
 have hl:n≤1048576:=by have:=length_le_sum strSize strSize_pos l;omega
 have hsum:(l.map strSize).sum=(l.map ByteArray.size).sum+n:=by rw [← hn];exact sum_strSize l
 rw [hn]
 have hR:∃ R,(l.map strSize).sum=R:=⟨_,rfl⟩
 obtain⟨R,hR⟩:=hR
 rw [hR] at hb hsum ⊢
 have hrow':=Lib.hid (hrow.plus y0)
 have hsum':=Lib.hid hsum
 have hb':=Lib.hid hb
 have hn':=Lib.hid hn
 have hl':=Lib.hid hl
 clear hrow hsum hb hn hl hR h1 h2
 obtain⟨W,hW⟩:∃ W,plus w y0=W:=⟨_,rfl⟩
 rw [hW] at hrow' ⊢
 have hW':=Lib.hid hW
 clear hW
 go_enter Tryz.func13,Tryz.ntmps13
 go_wp2
 have h0:(n:Int)=(tally ByteArray.size n l 0:Int):=by rw [tally_zero]
 rw [show Value.int .i64 (n:Int)=Value.int .i64 (tally ByteArray.size n l 0:Int) from congrArg _ h0]
 go_loopw [3,4] (fun nv iv wr=>∃ k:Nat,k≤n∧iv=.int .i64 (k:Int)∧nv=.int .i64 (tally ByteArray.size n l k:Int)∧wr=W) (fun _ iv _=>n - (intOf iv).toNat)
 case atStart=>exact⟨0,Nat.zero_le _,rfl,rfl,rfl⟩
 case round =>
  obtain⟨k,hk,rfl,rfl,rfl⟩:=hrel
  by_cases hlt:k < n
  ·obtain⟨s,hs⟩:∃ s,l[k]?=some s:=⟨l[k]'(by rw [hn'.out];exact hlt),List.getElem?_eq_getElem _⟩
   obtain⟨a,rfl,hc⟩:=hrow'.out k s hs
   have d0:=hc.c0 _ rfl
   simp only [Nat.mul_one] at d0
   have a3:=tally_succ ByteArray.size n l k s hs
   have a4:=tally_le ByteArray.size n l (k+1)
   have a6:=wr_succ k n hlt hl'.out
   have a7:wrap64 ((tally ByteArray.size n l k:Int)+(s.size:Int))=(tally ByteArray.size n l (k+1):Int):=by
    have:=hsum'.out
    have:=hb'.out
    rw [wr_in _ (by omega),a3]
    simp
   clear a3 a4 hs hc
   go_wp2
   go_roundw
   case rel=>exact⟨k+1,hlt,congrArg (Value.int .i64) a6,congrArg (Value.int .i64) a7,trivial⟩
   case measure=>exact step_less k n hlt a6
  ·obtain rfl:k=n:=by omega
   have hR:(tally ByteArray.size k l k:Int)=(R:Int):=by
    have:=hsum'.out
    rw [tally_all ByteArray.size _ l k hn'.out]
    omega
   have hR':=Lib.hid hR
   clear hR
   go_wp2
   go_ret
   exact⟨congrArg (fun z=>Ending.returned (Value.int .i64 z)) hR'.out,_,hW'.out.symm⟩
set_option maxHeartbeats 8000000 in
theorem ref_fields (L:Sl Fd) (w:World) (hin:L.In w 2 Fd.cells (Fd.In w)) (hb:L.size Fd.sz≤1048576):PureIn Tryz.prog w 11 #[L.v] (.int .i64 (L.size Fd.sz:Int)):=by
 intro y0
 obtain⟨p,cap,l⟩:=L
 obtain⟨h1,h2,hrow,_⟩:=hin
 simp only [Sl.size,Sl.v] at hb h1 hrow ⊢
 have hn:∃ n,l.length=n:=⟨_,rfl⟩
 obtain⟨n,hn⟩:=hn
 have hl:n≤1048576:=by have:=length_le_sum Fd.sz Fd.sz_pos l;omega
 have hsum:(l.map Fd.sz).sum=(l.map fun x=>x.name.size).sum+n:=by rw [← hn];exact sum_fdSize l
 rw [hn]
 have hR:∃ R,(l.map Fd.sz).sum=R:=⟨_,rfl⟩
 obtain⟨R,hR⟩:=hR
 rw [hR] at hb hsum ⊢
 have hrow':=Lib.hid (hrow.plus y0)
 have hsum':=Lib.hid hsum
 have hb':=Lib.hid hb
 have hn':=Lib.hid hn
 have hl':=Lib.hid hl
 clear hrow hsum hb hn hl hR h1 h2
 obtain⟨W,hW⟩:∃ W,plus w y0=W:=⟨_,rfl⟩
 rw [hW] at hrow' ⊢
 have hW':=Lib.hid hW
 clear hW
 go_enter Tryz.func11,Tryz.ntmps11
 go_wp2
 have h0:(n:Int)=(tally (fun x:Fd=>x.name.size) n l 0:Int):=by rw [tally_zero]
 rw [show Value.int .i64 (n:Int)=Value.int .i64 (tally (fun x:Fd=>x.name.size) n l 0:Int) from congrArg _ h0]
 go_loopw [3,4] (fun nv iv wr=>∃ k:Nat,k≤n∧iv=.int .i64 (k:Int)∧nv=.int .i64 (tally (fun x:Fd=>x.name.size) n l k:Int)∧wr=W) (fun _ iv _=>n - (intOf iv).toNat)
 case atStart=>exact⟨0,Nat.zero_le _,rfl,rfl,rfl⟩
 case round =>
  obtain⟨k,hk,rfl,rfl,rfl⟩:=hrel
  by_cases hlt:k < n
  ·obtain⟨s,hs⟩:∃ s,l[k]?=some s:=⟨l[k]'(by rw [hn'.out];exact hlt),List.getElem?_eq_getElem _⟩
   obtain⟨a,rfl,hc⟩:=hrow'.out k s hs
   have d0:=hc.c0 _ rfl
   have a3:=tally_succ (fun x:Fd=>x.name.size) n l k s hs
   have a4:=tally_le (fun x:Fd=>x.name.size) n l (k+1)
   have a6:=wr_succ k n hlt hl'.out
   have a7:wrap64 ((tally (fun x:Fd=>x.name.size) n l k:Int)+(s.name.size:Int))=(tally (fun x:Fd=>x.name.size) n l (k+1):Int):=by
    have:=hsum'.out
    have:=hb'.out
    rw [wr_in _ (by omega),a3]
    simp
   clear a3 a4 hs hc
   go_wp2
   go_roundw
   case rel=>exact⟨k+1,hlt,congrArg (Value.int .i64) a6,congrArg (Value.int .i64) a7,trivial⟩
   case measure=>exact step_less k n hlt a6
  ·obtain rfl:k=n:=by omega
   have hR:(tally (fun x:Fd=>x.name.size) k l k:Int)=(R:Int):=by
    have:=hsum'.out
    rw [tally_all (fun x:Fd=>x.name.size) _ l k hn'.out]
    omega
   have hR':=Lib.hid hR
   clear hR
   go_wp2
   go_ret
   exact⟨congrArg (fun z=>Ending.returned (Value.int .i64 z)) hR'.out,_,hW'.out.symm⟩
end Go.Proofs.YtobhijbncchpiaaGreat
