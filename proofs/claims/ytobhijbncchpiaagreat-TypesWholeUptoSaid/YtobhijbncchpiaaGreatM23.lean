/-
  WHAT IS PROVED HERE: a part of the proof (made narrower and merged by program; the parts: Dt).
-/
import Derived.Test.YtobhijbncchpiaaGreatM22
namespace Go.Proofs.YtobhijbncchpiaaGreat
open Go.RowKit
/-- A statement that is handed back: its expression is like that of s, in memory laid since. -/
def CopyS (s:St):Prop:=∀ w,s.In w→s.sz≤1048576→Calls Tryz.prog 33 #[.agg s.cells.toArray] w fun E w'=>∃ (e':Ex) (q:Option Addr) (d:Nat) (r:Option Addr) (f:Nat),E=.returned (.agg (St.cells (.mk s.kind s.head s.name e' q d s.thn r f s.els)).toArray)∧(∃ x,w'=plus w x)∧e'.In w'∧ExO w.heap.size w' e'∧e'.bare=s.e.bare
theorem stmt_info:(Tryz.prog.info? 47).map (fun i=>(i.zero,i.size,i.bytes))=some (some (.agg #[.int .u8 0,.string ⟨#[]⟩,.string ⟨#[]⟩,.int .u8 0,.int .i64 0,.int .u64 0,.int .u64 0,.string ⟨#[]⟩,.string ⟨#[]⟩,.int .i64 0,.int .i64 0,.slice none 0 0,.slice none 0 0,.slice none 0 0]),14,192):=by kernel_rfl
theorem make_stmts (n:Nat) (hn:n≤1048576) (w:World):∃ cs:Array Value,cs.size=n*14∧(Instr.makeSlice 27 (.int .i64 (n:Int)) (.int .i64 (n:Int))).run Tryz.prog w=.ok (.slice (some ⟨w.heap.size,0,none⟩) n n) (w.alloc (.cells cs 47)):=by
 obtain⟨i0,hi0,hi1,hi2,hi3⟩:=info_parts stmt_info
 have h:=run_make (P:=Tryz.prog) w 27 47 i0 _ Tryz.underlying27 hi0 hi1 .i64 .i64 (n:Int) (n:Int) (by omega) (by omega) (by rw [hi3];omega) (by omega)
 rw [Int.toNat_natCast,hi2] at h
 exact⟨_,size_madeCells _ _,h⟩
/-- A list of statements is handed back as so many. -/
def CopyT (l:List St):Prop:=∀ (p:Option Addr) (c:Nat) (w:World),RowAt w 14 St.cells p l→(∀ x ∈ l,x.In w)→(l.map St.sz).sum≤1048576 →
  Calls Tryz.prog 98 #[.slice p l.length c,.func (.func 33) #[] #[]] w fun E w'=>∃ (q:Option Addr) (d:Nat),E=.returned (.slice q l.length d)∧∃ x,w'=plus w x
set_option maxRecDepth 100000 in
set_option maxHeartbeats 16000000 in
theorem copied_stmts (l:List St) (ih:∀ x ∈ l,CopyS x):CopyT l:=by
 intro p c w hrow hkids hz
 have hl:l.length≤1048576:=by have:=length_le_sum St.sz (fun s=>by have:=St.sz_eq s;omega) l;omega
 have hsum:=Lib.hid (fun x hx=>Nat.le_trans (le_sum_of St.sz l x hx) hz)
 have hrow':=Lib.hid hrow
 have hkids':=Lib.hid hkids
 have ih':=Lib.hid ih
 obtain⟨n,hn⟩:∃ n,l.length=n:=⟨_,rfl⟩
 rw [hn] at hl ⊢
 have hn':=Lib.hid hn
 have hl':=Lib.hid hl
 clear hrow hkids ih hn hl hz
 cases p with
 | none =>
  have h0:l=[]:=by
   cases l with
   | nil=>rfl
   | cons x l=>obtain⟨a,h,_⟩:=hrow'.out 0 x rfl;cases h
  subst h0
  have he:∀ w:World,(binOp .eql 27 (.slice none n c) (.slice none 0 0)).run Tryz.prog w=.ok (.bool true) w:=fun _=>rfl
  obtain rfl:n=0:=hn'.out.symm
  go_enter Tryz.func98,Tryz.ntmps98
  go_wp2
  go_ret
  exact⟨none,0,rfl,⟨_,(plus_self _).symm⟩⟩
 | some pa =>
  have he:∀ w:World,(binOp .eql 27 (.slice (some pa) n c) (.slice none 0 0)).run Tryz.prog w=.ok (.bool false) w:=fun _=>rfl
  obtain⟨cs,hcs,hmk⟩:=make_stmts n hl'.out w
  go_enter Tryz.func98,Tryz.ntmps98
  go_wp2
  have hO:(w.alloc (.cells cs 47)).ownsRow w.heap.size 47 14 (.slice (some ⟨w.heap.size,0,none⟩) n n) n cs.toList:=World.ownsRow_lit w cs n (Nat.le_refl _) (by have:=hl'.out;unfold maxLen;omega) hcs
  obtain⟨g,hg⟩:∃ g,w.heap.size=g:=⟨_,rfl⟩
  have hV:∃ z,w.alloc (.cells cs 47)=plus w z:=plus_of_below ((Below.refl w.heap.size w).alloc (Nat.le_refl _) _)
  rw [hg] at hO ⊢
  generalize w.alloc (.cells cs 47)=V at hO hV ⊢
  clear hmk he
  go_loopw [6,7,15] (fun _ _ iv wr=>∃ (k:Nat) (xs:List Value),k≤n∧iv=.int .i64 (k:Int)∧wr.ownsRow g 47 14 (.slice (some ⟨g,0,none⟩) n n) n xs∧∃ z,wr=plus w z) (fun _ _ iv _=>n - (intOf iv).toNat)
  case atStart=>exact⟨0,cs.toList,Nat.zero_le _,rfl,hO,hV⟩
  case round =>
   obtain⟨k,xs,hk,rfl,hO,z,hz⟩:=hrel
   by_cases hlt:k < n
   ·obtain⟨x,hx⟩:∃ x,l[k]?=some x:=⟨l[k]'(by rw [hn'.out];exact hlt),List.getElem?_eq_getElem _⟩
    have hmem:=List.mem_of_getElem? hx
    obtain⟨pa2,hpa,hc⟩:=hrow'.out k x hx
    obtain rfl:=Option.some.inj hpa
    have hcw:CellsAt wr (pa.add (k*14)) x.cells:=by rw [hz];exact hc.plus z
    have d0:=hcw.c0 _ rfl
    have d1:=hcw.cs 0 _ rfl
    have d2:=hcw.cs 1 _ rfl
    have d3:=hcw.cs 2 _ rfl
    have d4:=hcw.cs 3 _ rfl
    have d5:=hcw.cs 4 _ rfl
    have d6:=hcw.cs 5 _ rfl
    have d7:=hcw.cs 6 _ rfl
    have d8:=hcw.cs 7 _ rfl
    have d9:=hcw.cs 8 _ rfl
    have d10:=hcw.cs 9 _ rfl
    have d11:=hcw.cs 10 _ rfl
    have d12:=hcw.cs 11 _ rfl
    have d13:=hcw.cs 12 _ rfl
    have q:=Lib.hid (fun (o:Obj)=>ih'.out x hmem (wr.alloc o) (by obtain⟨y,hy⟩:=plus_of_below ((Below.refl wr.heap.size wr).alloc (Nat.le_refl _) o);rw [hy];have q:=(hkids'.out x hmem).plus z;rw [← hz] at q;exact q.plus y) (hsum.out x hmem))
    simp only [St.cells] at q
    have a6:=Lib.hid (wr_succ k n hlt hl'.out)
    have hO':=Lib.hid hO
    have hz':=Lib.hid hz
    clear hcw hc hO hz hx hpa hmem
    go_wp2_with (fail)
    refine (q.out _).mono ?_
    rintro E w' ⟨e2,q2,f2,r2,h2,rfl,⟨x1,rfl⟩,-,-,-⟩
    obtain⟨W1,hW1⟩:∃ W,plus (wr.alloc (.cells #[.int .u8 x.kind,.string x.head,.string x.name,.int .u8 x.e.op,.int .i64 x.e.lit.w,.int .u64 x.e.lit.h,.int .u64 x.e.lit.l,.string x.e.head,.string x.e.name,.int .i64 x.e.hi,.int .i64 x.e.lo,.slice x.e.p x.e.args.length x.e.cap,.slice x.p x.thn.length x.cap,.slice x.q x.els.length x.cbp] 47)) x1=W:=⟨_,rfl⟩
    have hO1:=own_plus (ownr_alloc hO'.out (.cells #[.int .u8 x.kind,.string x.head,.string x.name,.int .u8 x.e.op,.int .i64 x.e.lit.w,.int .u64 x.e.lit.h,.int .u64 x.e.lit.l,.string x.e.head,.string x.e.name,.int .i64 x.e.hi,.int .i64 x.e.lo,.slice x.e.p x.e.args.length x.e.cap,.slice x.p x.thn.length x.cap,.slice x.q x.els.length x.cbp] 47)) x1
    have hup:=plus_of_below (((Below.refl wr.heap.size wr).alloc (Nat.le_refl _) (.cells #[.int .u8 x.kind,.string x.head,.string x.name,.int .u8 x.e.op,.int .i64 x.e.lit.w,.int .u64 x.e.lit.h,.int .u64 x.e.lit.l,.string x.e.head,.string x.e.name,.int .i64 x.e.hi,.int .i64 x.e.lo,.slice x.e.p x.e.args.length x.e.cap,.slice x.p x.thn.length x.cap,.slice x.q x.els.length x.cbp] 47)).trans ((below_plus _ x1).mono (by simp)))
    rw [hW1] at hO1 hup ⊢
    clear hW1 q d0 d1 d2 d3 d4 d5 d6 d7 d8 d9 d10 d11 d12 d13
    obtain⟨u0x,c0⟩:=own_there hO1 k 0 hlt (by decide)
    obtain⟨u1x,c1⟩:=own_there hO1 k 1 hlt (by decide)
    obtain⟨u2x,c2⟩:=own_there hO1 k 2 hlt (by decide)
    obtain⟨u3x,c3⟩:=own_there hO1 k 3 hlt (by decide)
    obtain⟨u4x,c4⟩:=own_there hO1 k 4 hlt (by decide)
    obtain⟨u5x,c5⟩:=own_there hO1 k 5 hlt (by decide)
    obtain⟨u6x,c6⟩:=own_there hO1 k 6 hlt (by decide)
    obtain⟨u7x,c7⟩:=own_there hO1 k 7 hlt (by decide)
    obtain⟨u8x,c8⟩:=own_there hO1 k 8 hlt (by decide)
    obtain⟨u9x,c9⟩:=own_there hO1 k 9 hlt (by decide)
    obtain⟨u10x,c10⟩:=own_there hO1 k 10 hlt (by decide)
    obtain⟨u11x,c11⟩:=own_there hO1 k 11 hlt (by decide)
    obtain⟨u12x,c12⟩:=own_there hO1 k 12 hlt (by decide)
    obtain⟨u13x,c13⟩:=own_there hO1 k 13 hlt (by decide)
    rw [Nat.add_zero] at c0
    have hf:=fun o=>hO1.frozenAt o
    have hO1':=Lib.hid hO1
    have hup':=Lib.hid hup
    clear hO1 hup
    obtain⟨xk,xhd,xnm,xe,xp,xc,xthn,xq,xc2,xels⟩:=x
    obtain⟨op2,⟨lw2,lh2,ll2⟩,hd2,nm2,hi2,lo2,p2,c2',args2⟩:=e2
    simp only [St.kind,St.head,St.name,St.e,St.p,St.cap,St.thn,St.q,St.cbp,St.els,Ex.op,Ex.lit,Ex.head,Ex.name,Ex.hi,Ex.lo,Ex.p,Ex.args,Ex.cap]
    go_wp2
    have hO2:=(storedFrom [.int .u8 xk,.string xhd,.string xnm,.int .u8 op2,.int .i64 lw2,.int .u64 lh2,.int .u64 ll2,.string hd2,.string nm2,.int .i64 hi2,.int .i64 lo2,.slice p2 args2.length c2',.slice q2 xthn.length f2,.slice r2 xels.length h2] W1 (k*14) _ hO1'.out).1
    have hw2:∃ z,cellsFrom g W1 (k*14) [.int .u8 xk,.string xhd,.string xnm,.int .u8 op2,.int .i64 lw2,.int .u64 lh2,.int .u64 ll2,.string hd2,.string nm2,.int .i64 hi2,.int .i64 lo2,.slice p2 args2.length c2',.slice q2 xthn.length f2,.slice r2 xels.length h2]=plus w z:=by
     obtain⟨z1,h1⟩:=hup'.out
     refine plus_of_below (Below.trans ?_ (from_below (show w.heap.size≤g by omega) _ W1 _))
     rw [h1,hz'.out,plus_plus]
     exact below_plus w _
    exact⟨⟨k+1,_,hlt,congrArg (Value.int .i64) a6.out,hO2,hw2⟩,step_less k n hlt a6.out⟩
   ·obtain rfl:k=n:=by omega
    have hz':=Lib.hid hz
    clear hz
    go_wp2
    go_ret
    exact⟨some ⟨g,0,none⟩,k,rfl,⟨z,hz'.out⟩⟩
/-- A box of cells of one's own and a result that is not yet written, in a world of more than w. -/
structure Box2 (w:World) (C R:List Value) (U:World):Prop where
 up:∃ z,U=plus w z
 lt:w.heap.size+1 < U.heap.size
 c:∀ j v,C[j]?=some v→U.cell? ⟨w.heap.size,j,none⟩=some v
 r:∀ j v,R[j]?=some v→U.cell? ⟨w.heap.size+1,j,none⟩=some v
 fc:∀ o,U.frozen? ⟨w.heap.size,o,none⟩=false
 fr:∀ o,U.frozen? ⟨w.heap.size+1,o,none⟩=false
theorem Box2.plus {w U:World} {C R:List Value} (h:Box2 w C R U) (x:Ext):Box2 w C R (Go.Proofs.YtobhijbncchpiaaGreat.plus U x) :=
 ⟨by obtain⟨z,hz⟩:=h.up;rw [hz,plus_plus];exact⟨_,rfl⟩,Nat.lt_of_lt_of_le h.lt (size_plus _ x),fun j v hj=>(cell_plus U x _ j (Nat.lt_of_succ_lt h.lt)).trans (h.c j v hj),fun j v hj=>(cell_plus U x _ j h.lt).trans (h.r j v hj),
  fun o=>(frozen_plus U x _ o (Nat.lt_of_succ_lt h.lt)).trans (h.fc o),fun o=>(frozen_plus U x _ o h.lt).trans (h.fr o)⟩
theorem box2_new (w:World) (c d:List Value) (t u:TypeId):Box2 w c d ((w.alloc (.cells c.toArray t)).alloc (.cells d.toArray u)):=by
 obtain⟨X,hX,hXB,hXs,ca,cb,fa,fb⟩:=box2 w c.toArray d.toArray t u
 rw [← hX]
 have e:=plus_self X
 refine⟨plus_of_below hXB,by omega,fun j v hj=>?_,fun j v hj=>?_,fun o=>?_,fun o=>?_⟩
 ·have:=ca j _ (by simpa using hj) ⟨#[],X.drawn⟩;rwa [e] at this
 ·have:=cb j _ (by simpa using hj) ⟨#[],X.drawn⟩;rwa [e] at this
 ·have:=fa ⟨#[],X.drawn⟩ o;rwa [e] at this
 ·have:=fb ⟨#[],X.drawn⟩ o;rwa [e] at this
theorem from_frozen {g:Nat}:∀ (vs:List Value) (W:World) (o:Nat) (a:Addr),(cellsFrom g W o vs).frozen? a=W.frozen? a
 | [],_,_,_=>rfl
 | _ :: vs,_,o,a=>(from_frozen vs _ (o+1) a).trans (World.frozen?_setCell _ _ _ _)
/-- Some of the box's cells are written anew. -/
theorem Box2.set {w U:World} {A B D R vs:List Value} (h:Box2 w (A++B++D) R U) (hl:vs.length=B.length):Box2 w (A++vs++D) R (cellsFrom w.heap.size U A.length vs):=by
 have hne:∀ j i:Nat,(⟨w.heap.size+1,j,none⟩:Addr)≠⟨w.heap.size,i,none⟩:=fun j i e=>by injection e with e1 _;omega
 refine⟨?_,by rw [from_size];exact h.lt,fun j v hj=>?_,fun j v hj=>?_,fun o=>by rw [from_frozen];exact h.fc o,fun o=>by rw [from_frozen];exact h.fr o⟩
 ·obtain⟨z,hz⟩:=h.up
  refine plus_of_below (Below.trans ?_ (from_below (Nat.le_refl _) _ _ _))
  rw [hz];exact below_plus w z
 ·by_cases h1:j < A.length
  ·rw [from_other _ _ _ _ (fun i _ e=>by injection e with _ e2;omega)]
   refine h.c j v ?_
   rw [List.append_assoc,List.getElem?_append_left h1] at hj ⊢
   exact hj
  ·by_cases h2:j < A.length+vs.length
   ·have e:j=A.length+(j - A.length):=by omega
    rw [List.append_assoc,List.getElem?_append_right (by omega),List.getElem?_append_left (by omega)] at hj
    rw [e]
    refine from_cell vs U A.length (j - A.length) v hj fun i hi=>?_
    obtain⟨x,hx⟩:∃ x,B[i]?=some x:=⟨B[i]'(by omega),List.getElem?_eq_getElem _⟩
    refine⟨x,h.c (A.length+i) x ?_⟩
    rw [List.append_assoc,List.getElem?_append_right (by omega),List.getElem?_append_left (by omega),show A.length+i - A.length=i by omega]
    exact hx
   ·rw [from_other _ _ _ _ (fun i hi e=>by injection e with _ e2;omega)]
    refine h.c j v ?_
    rw [List.getElem?_append_right (by simp;omega)] at hj ⊢
    rw [show j - (A++B).length=j - (A++vs).length by simp [hl]]
    exact hj
 ·rw [from_other _ _ _ _ (fun i _=>hne j _)]
  exact h.r j v hj
set_option maxRecDepth 100000 in
set_option maxHeartbeats 32000000 in
theorem copied_stmt_raw (kd:Int) (hd nm:ByteArray) (op lw lh ll:Int) (ehd enm:ByteArray) (eh el:Int) (ep:Option Addr) (en ec:Nat) (tp:Option Addr) (tn tc:Nat) (up:Option Addr) (un uc:Nat) (w:World) (Q:Ex→World→World→Prop)
  (ke:∀ W,(∃ z,W=plus w z)→Calls Tryz.prog 97 #[.agg #[.int .u8 op,.int .i64 lw,.int .u64 lh,.int .u64 ll,.string ehd,.string enm,.int .i64 eh,.int .i64 el,.slice ep en ec]] W fun E w'=>∃ e':Ex,E=.returned e'.val∧(∃ x,w'=plus W x)∧Q e' W w')
  (kt:∀ W,(∃ z,W=plus w z)→Calls Tryz.prog 98 #[.slice tp tn tc,.func (.func 33) #[] #[]] W fun E w'=>∃ (q:Option Addr) (d:Nat),E=.returned (.slice q tn d)∧∃ x,w'=plus W x)
  (ku:∀ W,(∃ z,W=plus w z)→Calls Tryz.prog 98 #[.slice up un uc,.func (.func 33) #[] #[]] W fun E w'=>∃ (q:Option Addr) (d:Nat),E=.returned (.slice q un d)∧∃ x,w'=plus W x) :
  Calls Tryz.prog 33 #[.agg #[.int .u8 kd,.string hd,.string nm,.int .u8 op,.int .i64 lw,.int .u64 lh,.int .u64 ll,.string ehd,.string enm,.int .i64 eh,.int .i64 el,.slice ep en ec,.slice tp tn tc,.slice up un uc]] w fun E w'=>∃ (op2 lw2 lh2 ll2:Int) (ehd2 enm2:ByteArray) (eh2 el2:Int) (ep2:Option Addr) (args2:List Ex) (ec2:Nat) (q:Option Addr) (d:Nat) (r:Option Addr) (f:Nat),E=.returned (.agg #[.int .u8 kd,.string hd,.string nm,.int .u8 op2,.int .i64 lw2,.int .u64 lh2,.int .u64 ll2,.string ehd2,.string enm2,.int .i64 eh2,.int .i64 el2,.slice ep2 args2.length ec2,.slice q tn d,.slice r un f])∧(∃ x,w'=plus w x)∧∃ W V,w.heap.size+2≤W.heap.size∧Q (.mk op2 ⟨lw2,lh2,ll2⟩ ehd2 enm2 eh2 el2 ep2 ec2 args2) W V∧∀ b,w.heap.size+2≤b→b < V.heap.size→w'.heap[b]?=V.heap[b]?:=by
 have ke':=Lib.hid ke
 have kt':=Lib.hid kt
 have ku':=Lib.hid ku
 clear ke kt ku
 go_enter Tryz.func33,Tryz.ntmps33
 go_upto_region 1 with (fail)
 have hX:=box2_new w [.int .u8 kd,.string hd,.string nm,.int .u8 op,.int .i64 lw,.int .u64 lh,.int .u64 ll,.string ehd,.string enm,.int .i64 eh,.int .i64 el,.slice ep en ec,.slice tp tn tc,.slice up un uc] [.int .u8 0,.string ⟨#[]⟩,.string ⟨#[]⟩,.int .u8 0,.int .i64 0,.int .u64 0,.int .u64 0,.string ⟨#[]⟩,.string ⟨#[]⟩,.int .i64 0,.int .i64 0,.slice none 0 0,.slice none 0 0,.slice none 0 0] 47 47
 obtain⟨X,eX⟩:∃ X,(w.alloc (.cells #[.int .u8 kd,.string hd,.string nm,.int .u8 op,.int .i64 lw,.int .u64 lh,.int .u64 ll,.string ehd,.string enm,.int .i64 eh,.int .i64 el,.slice ep en ec,.slice tp tn tc,.slice up un uc] 47)).alloc (.cells #[.int .u8 0,.string ⟨#[]⟩,.string ⟨#[]⟩,.int .u8 0,.int .i64 0,.int .u64 0,.int .u64 0,.string ⟨#[]⟩,.string ⟨#[]⟩,.int .i64 0,.int .i64 0,.slice none 0 0,.slice none 0 0,.slice none 0 0] 47)=X:=⟨_,rfl⟩
 have hX:Box2 w [.int .u8 kd,.string hd,.string nm,.int .u8 op,.int .i64 lw,.int .u64 lh,.int .u64 ll,.string ehd,.string enm,.int .i64 eh,.int .i64 el,.slice ep en ec,.slice tp tn tc,.slice up un uc] [.int .u8 0,.string ⟨#[]⟩,.string ⟨#[]⟩,.int .u8 0,.int .i64 0,.int .u64 0,.int .u64 0,.string ⟨#[]⟩,.string ⟨#[]⟩,.int .i64 0,.int .i64 0,.slice none 0 0,.slice none 0 0,.slice none 0 0] X:=eX ▸ hX
 rw [eX]
 clear eX
 have c0:=hX.c 0 _ rfl
 have c1:=hX.c 1 _ rfl
 have c2:=hX.c 2 _ rfl
 have c3:=hX.c 3 _ rfl
 have c4:=hX.c 4 _ rfl
 have c5:=hX.c 5 _ rfl
 have c6:=hX.c 6 _ rfl
 have c7:=hX.c 7 _ rfl
 have c8:=hX.c 8 _ rfl
 have c9:=hX.c 9 _ rfl
 have c10:=hX.c 10 _ rfl
 have c11:=hX.c 11 _ rfl
 have c12:=hX.c 12 _ rfl
 have c13:=hX.c 13 _ rfl
 have q1:=Lib.hid (ke'.out X hX.up)
 have hX':=Lib.hid hX
 clear hX ke'
 go_wp2_with fail
 refine q1.out.mono ?_
 rintro E w1 ⟨⟨op2,⟨lw2,lh2,ll2⟩,ehd2,enm2,eh2,el2,ep2,ec2,args2⟩,rfl,⟨x1,hx1⟩,hQ⟩
 have h1:=hX'.out.plus x1
 rw [← hx1] at h1
 have hsz1:=Lib.hid hX'.out.lt
 clear q1 hX' hx1 c0 c1 c2 c3 c4 c5 c6 c7 c8 c9 c10 c11 c12 c13
 obtain⟨en2,hen2⟩:∃ n,args2.length=n:=⟨_,rfl⟩
 simp only [Ex.val,Ex.cells,Ex.op,Ex.lit,Ex.head,Ex.name,Ex.hi,Ex.lo,Ex.p,Ex.args,Ex.cap,hen2]
 have c0:=h1.c 0 _ rfl
 have c1:=h1.c 1 _ rfl
 have c2:=h1.c 2 _ rfl
 have c3:=h1.c 3 _ rfl
 have c4:=h1.c 4 _ rfl
 have c5:=h1.c 5 _ rfl
 have c6:=h1.c 6 _ rfl
 have c7:=h1.c 7 _ rfl
 have c8:=h1.c 8 _ rfl
 have c9:=h1.c 9 _ rfl
 have c10:=h1.c 10 _ rfl
 have c11:=h1.c 11 _ rfl
 have c12:=h1.c 12 _ rfl
 have c13:=h1.c 13 _ rfl
 have fc:=h1.fc
 have h2:=Box2.set (A:=[.int .u8 kd,.string hd,.string nm]) (B:=[.int .u8 op,.int .i64 lw,.int .u64 lh,.int .u64 ll,.string ehd,.string enm,.int .i64 eh,.int .i64 el,.slice ep en ec]) (D:=[.slice tp tn tc,.slice up un uc]) (vs:=[.int .u8 op2,.int .i64 lw2,.int .u64 lh2,.int .u64 ll2,.string ehd2,.string enm2,.int .i64 eh2,.int .i64 el2,.slice ep2 en2 ec2]) h1 rfl
 have h2:Box2 w [.int .u8 kd,.string hd,.string nm,.int .u8 op2,.int .i64 lw2,.int .u64 lh2,.int .u64 ll2,.string ehd2,.string enm2,.int .i64 eh2,.int .i64 el2,.slice ep2 en2 ec2,.slice tp tn tc,.slice up un uc] [.int .u8 0,.string ⟨#[]⟩,.string ⟨#[]⟩,.int .u8 0,.int .i64 0,.int .u64 0,.int .u64 0,.string ⟨#[]⟩,.string ⟨#[]⟩,.int .i64 0,.int .i64 0,.slice none 0 0,.slice none 0 0,.slice none 0 0] ((((((((((w1).setCell ⟨w.heap.size,3,none⟩ (.int .u8 op2)).setCell ⟨w.heap.size,4,none⟩ (.int .i64 lw2)).setCell ⟨w.heap.size,5,none⟩ (.int .u64 lh2)).setCell ⟨w.heap.size,6,none⟩ (.int .u64 ll2)).setCell ⟨w.heap.size,7,none⟩ (.string ehd2)).setCell ⟨w.heap.size,8,none⟩ (.string enm2)).setCell ⟨w.heap.size,9,none⟩ (.int .i64 eh2)).setCell ⟨w.heap.size,10,none⟩ (.int .i64 el2)).setCell ⟨w.heap.size,11,none⟩ (.slice ep2 en2 ec2)):=h2
 have hh2:=fun b (hb:w.heap.size+2≤b)=>show ((((((((((w1).setCell ⟨w.heap.size,3,none⟩ (.int .u8 op2)).setCell ⟨w.heap.size,4,none⟩ (.int .i64 lw2)).setCell ⟨w.heap.size,5,none⟩ (.int .u64 lh2)).setCell ⟨w.heap.size,6,none⟩ (.int .u64 ll2)).setCell ⟨w.heap.size,7,none⟩ (.string ehd2)).setCell ⟨w.heap.size,8,none⟩ (.string enm2)).setCell ⟨w.heap.size,9,none⟩ (.int .i64 eh2)).setCell ⟨w.heap.size,10,none⟩ (.int .i64 el2)).setCell ⟨w.heap.size,11,none⟩ (.slice ep2 en2 ec2)).heap[b]?=w1.heap[b]? from from_heap (g:=w.heap.size) [.int .u8 op2,.int .i64 lw2,.int .u64 lh2,.int .u64 ll2,.string ehd2,.string enm2,.int .i64 eh2,.int .i64 el2,.slice ep2 en2 ec2] w1 3 b (by omega)
 have hq:=Lib.hid hQ
 clear hQ h1
 have h2':=Lib.hid h2
 have hh2':=Lib.hid hh2
 clear h2 hh2
 go_upto_region 2 with (fail)
 obtain⟨w2,e2⟩:∃ W,(((((((((w1).setCell ⟨w.heap.size,3,none⟩ (.int .u8 op2)).setCell ⟨w.heap.size,4,none⟩ (.int .i64 lw2)).setCell ⟨w.heap.size,5,none⟩ (.int .u64 lh2)).setCell ⟨w.heap.size,6,none⟩ (.int .u64 ll2)).setCell ⟨w.heap.size,7,none⟩ (.string ehd2)).setCell ⟨w.heap.size,8,none⟩ (.string enm2)).setCell ⟨w.heap.size,9,none⟩ (.int .i64 eh2)).setCell ⟨w.heap.size,10,none⟩ (.int .i64 el2)).setCell ⟨w.heap.size,11,none⟩ (.slice ep2 en2 ec2)=W:=⟨_,rfl⟩
 have h2:=h2'.out
 have hh2:=hh2'.out
 rw [e2] at h2 hh2 ⊢
 clear e2 h2' hh2' fc c0 c1 c2 c3 c4 c5 c6 c7 c8 c9 c10 c11 c12 c13
 have c0:=h2.c 0 _ rfl
 have c1:=h2.c 1 _ rfl
 have c2:=h2.c 2 _ rfl
 have c3:=h2.c 3 _ rfl
 have c4:=h2.c 4 _ rfl
 have c5:=h2.c 5 _ rfl
 have c6:=h2.c 6 _ rfl
 have c7:=h2.c 7 _ rfl
 have c8:=h2.c 8 _ rfl
 have c9:=h2.c 9 _ rfl
 have c10:=h2.c 10 _ rfl
 have c11:=h2.c 11 _ rfl
 have c12:=h2.c 12 _ rfl
 have c13:=h2.c 13 _ rfl
 have q2:=Lib.hid (kt'.out w2 h2.up)
 have h2':=Lib.hid h2
 have hh2':=Lib.hid hh2
 clear h2 hh2 kt'
 go_wp2_with fail
 refine q2.out.mono ?_
 rintro E w3 ⟨q,d,rfl,⟨x2,hx2⟩⟩
 have h3:=h2'.out.plus x2
 rw [← hx2] at h3
 have hx2':=Lib.hid hx2
 clear q2 h2' hx2 c0 c1 c2 c3 c4 c5 c6 c7 c8 c9 c10 c11 c12 c13
 have c0:=h3.c 0 _ rfl
 have c1:=h3.c 1 _ rfl
 have c2:=h3.c 2 _ rfl
 have c3:=h3.c 3 _ rfl
 have c4:=h3.c 4 _ rfl
 have c5:=h3.c 5 _ rfl
 have c6:=h3.c 6 _ rfl
 have c7:=h3.c 7 _ rfl
 have c8:=h3.c 8 _ rfl
 have c9:=h3.c 9 _ rfl
 have c10:=h3.c 10 _ rfl
 have c11:=h3.c 11 _ rfl
 have c12:=h3.c 12 _ rfl
 have c13:=h3.c 13 _ rfl
 have fc:=h3.fc
 have h4:=Box2.set (A:=[.int .u8 kd,.string hd,.string nm,.int .u8 op2,.int .i64 lw2,.int .u64 lh2,.int .u64 ll2,.string ehd2,.string enm2,.int .i64 eh2,.int .i64 el2,.slice ep2 en2 ec2]) (B:=[.slice tp tn tc]) (D:=[.slice up un uc]) (vs:=[.slice q tn d]) h3 rfl
 have h4:Box2 w [.int .u8 kd,.string hd,.string nm,.int .u8 op2,.int .i64 lw2,.int .u64 lh2,.int .u64 ll2,.string ehd2,.string enm2,.int .i64 eh2,.int .i64 el2,.slice ep2 en2 ec2,.slice q tn d,.slice up un uc] [.int .u8 0,.string ⟨#[]⟩,.string ⟨#[]⟩,.int .u8 0,.int .i64 0,.int .u64 0,.int .u64 0,.string ⟨#[]⟩,.string ⟨#[]⟩,.int .i64 0,.int .i64 0,.slice none 0 0,.slice none 0 0,.slice none 0 0] (w3.setCell ⟨w.heap.size,12,none⟩ (.slice q tn d)):=h4
 have h4':=Lib.hid h4
 clear h4 h3
 go_upto_region 3 with (fail)
 obtain⟨w4,e4⟩:∃ W,w3.setCell ⟨w.heap.size,12,none⟩ (.slice q tn d)=W:=⟨_,rfl⟩
 have h4:=h4'.out
 have hh4:=fun b (hb:w.heap.size+2≤b)=>(show (w3.setCell ⟨w.heap.size,12,none⟩ (.slice q tn d)).heap[b]?=w3.heap[b]? from Below.heap_setCell _ _ _ b (by simp only;omega))
 rw [e4] at h4 hh4 ⊢
 clear e4 h4' fc c0 c1 c2 c3 c4 c5 c6 c7 c8 c9 c10 c11 c12 c13
 have c0:=h4.c 0 _ rfl
 have c1:=h4.c 1 _ rfl
 have c2:=h4.c 2 _ rfl
 have c3:=h4.c 3 _ rfl
 have c4:=h4.c 4 _ rfl
 have c5:=h4.c 5 _ rfl
 have c6:=h4.c 6 _ rfl
 have c7:=h4.c 7 _ rfl
 have c8:=h4.c 8 _ rfl
 have c9:=h4.c 9 _ rfl
 have c10:=h4.c 10 _ rfl
 have c11:=h4.c 11 _ rfl
 have c12:=h4.c 12 _ rfl
 have c13:=h4.c 13 _ rfl
 have q4:=Lib.hid (ku'.out w4 h4.up)
 have h4':=Lib.hid h4
 have hh4':=Lib.hid hh4
 clear h4 hh4 ku'
 go_wp2_with fail
 refine q4.out.mono ?_
 rintro E w5 ⟨r,f,rfl,⟨x3,hx3⟩⟩
 have h5:=h4'.out.plus x3
 rw [← hx3] at h5
 have hx3':=Lib.hid hx3
 clear q4 h4' hx3 c0 c1 c2 c3 c4 c5 c6 c7 c8 c9 c10 c11 c12 c13
 have c0:=h5.c 0 _ rfl
 have c1:=h5.c 1 _ rfl
 have c2:=h5.c 2 _ rfl
 have c3:=h5.c 3 _ rfl
 have c4:=h5.c 4 _ rfl
 have c5:=h5.c 5 _ rfl
 have c6:=h5.c 6 _ rfl
 have c7:=h5.c 7 _ rfl
 have c8:=h5.c 8 _ rfl
 have c9:=h5.c 9 _ rfl
 have c10:=h5.c 10 _ rfl
 have c11:=h5.c 11 _ rfl
 have c12:=h5.c 12 _ rfl
 have c13:=h5.c 13 _ rfl
 have r0:=h5.r 0 _ rfl
 have r1:=h5.r 1 _ rfl
 have r2:=h5.r 2 _ rfl
 have r3:=h5.r 3 _ rfl
 have r4:=h5.r 4 _ rfl
 have r5:=h5.r 5 _ rfl
 have r6:=h5.r 6 _ rfl
 have r7:=h5.r 7 _ rfl
 have r8:=h5.r 8 _ rfl
 have r9:=h5.r 9 _ rfl
 have r10:=h5.r 10 _ rfl
 have r11:=h5.r 11 _ rfl
 have r12:=h5.r 12 _ rfl
 have r13:=h5.r 13 _ rfl
 have fc:=h5.fc
 have fr:=h5.fr
 have h6:=Box2.set (A:=[.int .u8 kd,.string hd,.string nm,.int .u8 op2,.int .i64 lw2,.int .u64 lh2,.int .u64 ll2,.string ehd2,.string enm2,.int .i64 eh2,.int .i64 el2,.slice ep2 en2 ec2,.slice q tn d]) (B:=[.slice up un uc]) (D:=[]) (vs:=[.slice r un f]) h5 rfl
 have h6:Box2 w [.int .u8 kd,.string hd,.string nm,.int .u8 op2,.int .i64 lw2,.int .u64 lh2,.int .u64 ll2,.string ehd2,.string enm2,.int .i64 eh2,.int .i64 el2,.slice ep2 en2 ec2,.slice q tn d,.slice r un f] [.int .u8 0,.string ⟨#[]⟩,.string ⟨#[]⟩,.int .u8 0,.int .i64 0,.int .u64 0,.int .u64 0,.string ⟨#[]⟩,.string ⟨#[]⟩,.int .i64 0,.int .i64 0,.slice none 0 0,.slice none 0 0,.slice none 0 0] (w5.setCell ⟨w.heap.size,13,none⟩ (.slice r un f)):=h6
 have h6':=Lib.hid h6
 clear h6 h5
 go_wp2
 have hgot:=fun j v hj=>from_cell (g:=w.heap.size+1) [.int .u8 kd,.string hd,.string nm,.int .u8 op2,.int .i64 lw2,.int .u64 lh2,.int .u64 ll2,.string ehd2,.string enm2,.int .i64 eh2,.int .i64 el2,.slice ep2 en2 ec2,.slice q tn d,.slice r un f] (w5.setCell ⟨w.heap.size,13,none⟩ (.slice r un f)) 0 j v hj
  (fun i hi=>by
   match i,hi with
   | 0,_=>exact⟨_,h6'.out.r 0 _ rfl⟩
   | 1,_=>exact⟨_,h6'.out.r 1 _ rfl⟩
   | 2,_=>exact⟨_,h6'.out.r 2 _ rfl⟩
   | 3,_=>exact⟨_,h6'.out.r 3 _ rfl⟩
   | 4,_=>exact⟨_,h6'.out.r 4 _ rfl⟩
   | 5,_=>exact⟨_,h6'.out.r 5 _ rfl⟩
   | 6,_=>exact⟨_,h6'.out.r 6 _ rfl⟩
   | 7,_=>exact⟨_,h6'.out.r 7 _ rfl⟩
   | 8,_=>exact⟨_,h6'.out.r 8 _ rfl⟩
   | 9,_=>exact⟨_,h6'.out.r 9 _ rfl⟩
   | 10,_=>exact⟨_,h6'.out.r 10 _ rfl⟩
   | 11,_=>exact⟨_,h6'.out.r 11 _ rfl⟩
   | 12,_=>exact⟨_,h6'.out.r 12 _ rfl⟩
   | 13,_=>exact⟨_,h6'.out.r 13 _ rfl⟩
   | n+14,hi=>exact absurd hi (by simp))
 obtain⟨U,hU⟩:∃ U,((((((((((((((w5.setCell ⟨w.heap.size,13,none⟩ (.slice r un f)).setCell ⟨w.heap.size+1,0,none⟩ (.int .u8 kd)).setCell ⟨w.heap.size+1,1,none⟩ (.string hd)).setCell ⟨w.heap.size+1,2,none⟩ (.string nm)).setCell ⟨w.heap.size+1,3,none⟩ (.int .u8 op2)).setCell ⟨w.heap.size+1,4,none⟩ (.int .i64 lw2)).setCell ⟨w.heap.size+1,5,none⟩ (.int .u64 lh2)).setCell ⟨w.heap.size+1,6,none⟩ (.int .u64 ll2)).setCell ⟨w.heap.size+1,7,none⟩ (.string ehd2)).setCell ⟨w.heap.size+1,8,none⟩ (.string enm2)).setCell ⟨w.heap.size+1,9,none⟩ (.int .i64 eh2)).setCell ⟨w.heap.size+1,10,none⟩ (.int .i64 el2)).setCell ⟨w.heap.size+1,11,none⟩ (.slice ep2 en2 ec2)).setCell ⟨w.heap.size+1,12,none⟩ (.slice q tn d)).setCell ⟨w.heap.size+1,13,none⟩ (.slice r un f)=U:=⟨_,rfl⟩
 have hV:cellsFrom (w.heap.size+1) (w5.setCell ⟨w.heap.size,13,none⟩ (.slice r un f)) 0 [.int .u8 kd,.string hd,.string nm,.int .u8 op2,.int .i64 lw2,.int .u64 lh2,.int .u64 ll2,.string ehd2,.string enm2,.int .i64 eh2,.int .i64 el2,.slice ep2 en2 ec2,.slice q tn d,.slice r un f]=U:=hU
 rw [hU]
 rw [hV] at hgot
 have g0:=hgot 0 _ rfl
 simp only [Nat.zero_add] at g0
 have g1:=hgot 1 _ rfl
 simp only [Nat.zero_add] at g1
 have g2:=hgot 2 _ rfl
 simp only [Nat.zero_add] at g2
 have g3:=hgot 3 _ rfl
 simp only [Nat.zero_add] at g3
 have g4:=hgot 4 _ rfl
 simp only [Nat.zero_add] at g4
 have g5:=hgot 5 _ rfl
 simp only [Nat.zero_add] at g5
 have g6:=hgot 6 _ rfl
 simp only [Nat.zero_add] at g6
 have g7:=hgot 7 _ rfl
 simp only [Nat.zero_add] at g7
 have g8:=hgot 8 _ rfl
 simp only [Nat.zero_add] at g8
 have g9:=hgot 9 _ rfl
 simp only [Nat.zero_add] at g9
 have g10:=hgot 10 _ rfl
 simp only [Nat.zero_add] at g10
 have g11:=hgot 11 _ rfl
 simp only [Nat.zero_add] at g11
 have g12:=hgot 12 _ rfl
 simp only [Nat.zero_add] at g12
 have g13:=hgot 13 _ rfl
 simp only [Nat.zero_add] at g13
 have hplus:∃ z,U=plus w z:=by
  obtain⟨z,h⟩:=h6'.out.up
  refine plus_of_below ?_
  rw [← hV]
  refine Below.trans ?_ (from_below (Nat.le_succ _) _ _ _)
  rw [h]
  exact below_plus w z
 have hkeep:∀ b,w.heap.size+2≤b→b < w1.heap.size→U.heap[b]?=w1.heap[b]?:=fun b hb hlt=>by
  rw [← hV]
  refine (from_heap _ _ _ b (by omega)).trans ((Below.heap_setCell _ _ _ b (by simp only;omega)).trans ?_)
  obtain⟨ob,ho⟩:∃ o,w1.heap[b]?=some o:=⟨_,Array.getElem?_eq_getElem hlt⟩
  have o2:=(hh2'.out b hb).trans ho
  have o3:w3.heap[b]?=some ob:=by rw [hx2'.out];exact ((below_plus w2 x2).block b (Array.getElem?_eq_some_iff.1 o2).1).trans o2
  have o4:=(hh4'.out b hb).trans o3
  have o5:w5.heap[b]?=some ob:=by rw [hx3'.out];exact ((below_plus w4 x3).block b (Array.getElem?_eq_some_iff.1 o4).1).trans o4
  exact o5.trans ho.symm
 clear hU hV hgot fc fr c0 r0 c1 r1 c2 r2 c3 r3 c4 r4 c5 r5 c6 r6 c7 r7 c8 r8 c9 r9 c10 r10 c11 r11 c12 r12 c13 r13
 subst hen2
 exact bodyPost_ret (v:=.agg #[.int .u8 kd,.string hd,.string nm,.int .u8 op2,.int .i64 lw2,.int .u64 lh2,.int .u64 ll2,.string ehd2,.string enm2,.int .i64 eh2,.int .i64 el2,.slice ep2 args2.length ec2,.slice q tn d,.slice r un f]) (by simp [results,Tryz.results33,go_sem,g0,g1,g2,g3,g4,g5,g6,g7,g8,g9,g10,g11,g12,g13]) rfl ⟨op2,lw2,lh2,ll2,ehd2,enm2,eh2,el2,ep2,args2,ec2,q,d,r,f,rfl,hplus,X,w1,hsz1.out,hq.out,hkeep⟩
theorem copied_stmt (s:St) (h1:∀ x ∈ s.thn,CopyS x) (h2:∀ x ∈ s.els,CopyS x):CopyS s:=by
 intro w hin hz
 have hse:=St.sz_eq s
 have i1:=St.In.inThn hin
 have i2:=St.In.inEls hin
 have ie:=St.In.inE hin
 have he:s.e.wt≤1048576:=by omega
 obtain⟨kd,hd,nm,e,p,c,thn,q,c2,els⟩:=s
 simp only [St.kind,St.head,St.name,St.e,St.thn,St.els] at h1 h2 hse he ie ⊢
 have k:=copied_stmt_raw kd hd nm e.op e.lit.w e.lit.h e.lit.l e.head e.name e.hi e.lo e.p e.args.length e.cap p thn.length c q els.length c2 w (fun e' W V=>e'.In V∧ExO W.heap.size V e'∧e'.bare=e.bare)
  (fun W hW=>(copied_all e W (by obtain⟨z,rfl⟩:=hW;exact ie.plus z) he).mono fun E w' ⟨e',a,b,c,d,f⟩=>⟨e',a,b,c,d,f⟩)
  (fun W hW=>copied_stmts thn h1 p c W (by obtain⟨z,rfl⟩:=hW;exact i1.row.plus z) (by obtain⟨z,rfl⟩:=hW;exact fun x hx=>(i1.kids x hx).plus z) (by omega))
  (fun W hW=>copied_stmts els h2 q c2 W (by obtain⟨z,rfl⟩:=hW;exact i2.row.plus z) (by obtain⟨z,rfl⟩:=hW;exact fun x hx=>(i2.kids x hx).plus z) (by omega))
 refine k.mono ?_
 rintro E w' ⟨op2,lw2,lh2,ll2,ehd2,enm2,eh2,el2,ep2,args2,ec2,q',d,r,f,rfl,hp,W,V,hW,⟨a1,a2,a3⟩,hk⟩
 have hk2:=exo_keep (n:=w.heap.size+2) (W:=V) (W':=w') (fun b cur fz hb hh=>(hk b hb (Array.getElem?_eq_some_iff.1 hh).1).trans hh) _ a1 (a2.mono hW)
 exact⟨.mk op2 ⟨lw2,lh2,ll2⟩ ehd2 enm2 eh2 el2 ep2 ec2 args2,q',d,r,f,rfl,hp,hk2.1,hk2.2.mono (by omega),a3⟩
theorem copied_st:∀ s:St,CopyS s:=fun s=>St.ind (Q:=CopyS) (fun s h1 h2=>copied_stmt s h1 h2) s
end Go.Proofs.YtobhijbncchpiaaGreat
