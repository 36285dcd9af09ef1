/-
  WHAT IS PROVED HERE: a part of the proof (made narrower and merged by program; the parts: Zn Zo).
-/
import Derived.Test.YtlmhldcebllckaaGreatRows
import Derived.Test.YtlmhldcebllckaaGreatM11
namespace Go.Proofs.YtlmhldcebllckaaGreat
open Go.RowKit Go.Shelf
attribute [local go_sem] Oper.semAt_some
/-- An item: of a kind, with two numbers; or a statement. -/
inductive It where
 | num (kind:Int) (a b:Nat)
 | st (a:Int) (s:St)
def It.v:It → Value
 | .num kind a b=>itV kind (a:Int) (b:Int)
 | .st a s=>.agg #[.int .u8 10,.int .i64 a,.int .i64 0,.int .u8 s.kind,.string s.head,.string s.name,.int .u8 s.e.op,.int .i64 s.e.lit.w,.int .u64 s.e.lit.h,.int .u64 s.e.lit.l,.string s.e.head,.string s.e.name,.int .i64 s.e.hi,.int .i64 s.e.lo,.slice s.e.p s.e.args.length s.e.cap,.slice s.p s.thn.length s.cap,.slice s.q s.els.length s.cbp]
/-- So many parts of a kind, of one thing. -/
def ptI (kind:Int) (a n:Nat):List It:=(List.range n).map (fun j=>.num kind a j)
theorem ptI_len (kind:Int) (a n:Nat):(ptI kind a n).length = n:=by simp [ptI]
theorem ptI_at (kind:Int) (a n j:Nat) (h:j < n):(ptI kind a n)[j]? = some (.num kind a j):=by simp [ptI,h]
/-- They stand in the list, from the k-th on. -/
def Sub (xs:List It) (k:Nat) (ys:List It):Prop:=∀ j x,ys[j]? = some x → xs[k + j]? = some x
theorem Sub.head {xs:List It} {k:Nat} {y:It} {ys:List It} (h:Sub xs k (y :: ys)):xs[k]? = some y:=h 0 y rfl
theorem Sub.tail {xs:List It} {k:Nat} {y:It} {ys:List It} (h:Sub xs k (y :: ys)):Sub xs (k + 1) ys:=fun j x hj=>by
 have:=h (j + 1) x (by simpa using hj)
 rwa [show k + 1 + j = k + (j + 1) by omega]
theorem Sub.left {xs:List It} {k:Nat} {a b:List It} (h:Sub xs k (a++b)):Sub xs k a:=fun j x hj=>h j x (by
 rw [List.getElem?_append_left (by exact (List.getElem?_eq_some_iff.1 hj).1)];exact hj)
theorem Sub.right {xs:List It} {k:Nat} {a b:List It} (h:Sub xs k (a++b)):Sub xs (k + a.length) b:=fun j x hj=>by
 have:=h (a.length + j) x (by rw [List.getElem?_append_right (by omega)];simpa using hj)
 rwa [show k + a.length + j = k + (a.length + j) by omega]
/-- The items of things in a row. -/
def flI {α:Type} (f:Nat → α → List It):Nat → List α → List It
 | _,[]=>[]
 | i,x :: l=>f i x++flI f (i + 1) l
theorem flI_len {α:Type} (f:Nat → α → List It) (m:α → Nat) (hm:∀ i x,(f i x).length = m x):∀ (l:List α) (b:Nat),(flI f b l).length = (l.map m).sum
 | [],_=>rfl
 | x :: l,b=>by simp [flI,hm,flI_len f m hm l]
theorem Sub.at {α:Type} {xs:List It} (f:Nat → α → List It) (m:α → Nat) (hm:∀ i x,(f i x).length = m x):∀ (l:List α) (k b i:Nat) (x:α),Sub xs k (flI f b l) → l[i]? = some x → Sub xs (k + upI m l i) (f (b + i) x)
 | [],_,_,i,x,_,h=>by simp at h
 | y :: l,k,b,0,x,hs,h=>by
  obtain rfl:y = x:=by simpa using h
  rw [upI_zero]
  exact hs.left
 | y :: l,k,b,i + 1,x,hs,h=>by
  have q:=Sub.at f m hm l (k + (f b y).length) (b + 1) i x hs.right (by simpa using h)
  rw [show b + 1 + i = b + (i + 1) by omega] at q
  rw [show upI m (y :: l) (i + 1) = m y + upI m l i by simp [upI],← Nat.add_assoc,← hm b y]
  exact q
def encH (a n:Nat):List It:=.num 1 a 0 :: ptI 2 a n
def encS (a n m:Nat):List It:=.num 4 a 0 :: (ptI 5 a n++(.num 6 a 0 :: ptI 7 a m))
def encT (a n m:Nat):List It:=.num 11 a 0 :: (ptI 12 a n++(ptI 13 a m++[.num 14 a 0]))
/-- What a round does when it is asked of the list's next item. -/
structure Rnd (P:Program) (l:Nat) (xs:List It) (S:Nat → Prop) (J Jx:Nat → World → Prop):Prop where
 next:Next P l It.v xs S J Jx
 lays:Lays J
theorem Rnd.parts {P:Program} {l:Nat} {xs:List It} {S:Nat → Prop} {J Jx:Nat → World → Prop} (h:Rnd P l xs S J Jx) {k:Nat} {kind:Int} {a n:Nat} (hs:Sub xs k (ptI kind a n)):∀ j W1,j < n → J (k + j) W1 → YieldAt Fence.wide 0 P l #[itV kind a (j:Int)] W1 (Came S J Jx (k + j) 1 W1):=fun j W1 hj hJ=>h.next (k + j) (.num kind a j) W1 (hs j _ (ptI_at kind a n j hj)) hJ
theorem Rnd.one {P:Program} {l:Nat} {xs:List It} {S:Nat → Prop} {J Jx:Nat → World → Prop} (h:Rnd P l xs S J Jx) {k:Nat} {kind:Int} {a:Nat} (hs:xs[k]? = some (.num kind a 0)) {W:World} (hJ:J k W):YieldAt Fence.wide 0 P l #[itV kind a 0] W (Came S J Jx k 1 W):=h.next k (.num kind a 0) W hs hJ
theorem box_kq {S:Nat → Prop} {V W:World} (hb:∀ b,S b → b < V.heap.size) (c:Array Value) (t:TypeId) (hk:Kq S (V.alloc (.cells c t)) W) (o:Nat) (v:Value) (h:c[o]? = some v):W.cell? ⟨V.heap.size,o,none⟩ = some v :=
 hk.cell _ _ (fun hs=>Nat.lt_irrefl _ (hb _ hs)) ((cell_new V c t _ o rfl).trans h)
set_option maxRecDepth 100000 in
set_option maxHeartbeats 8000000 in
theorem theader_in (l:Nat) (xs:List It) (S:Nat → Prop) (J Jx:Nat → World → Prop) (hR:Rnd Tryz.prog l xs S J Jx) (a:Nat) (nm:ByteArray) (p:Option Addr) (n c:Nat) (hn:n ≤ 1048576) (k:Nat) (hs:Sub xs k (encH a n)) (W:World) (hb:∀ b,S b → b < W.heap.size) (h0:J k W) :
  CallsIn Fence.wide 0 Tryz.prog 50 #[yv l,.int .i64 (a:Int),.agg #[.string nm,.slice p n c]] W (Came S J Jx k (n + 1) W):=by
 have hR':=Lib.hid hR
 have hn':=Lib.hid hn
 have hs':=Lib.hid hs
 have hb':=Lib.hid hb
 have h0':=Lib.hid h0
 have q1:=Lib.hid (fun o:Obj=>one_in l 1 (a:Int) S J Jx k (W.alloc o) (hR.one hs.head (lays_alloc hR.lays h0 o)))
 clear hR hn hs hb h0
 refine callsIn_of_wp Tryz.func50 rfl trivial ?_ rfl
 simp only [Tryz.ntmps50,List.size_toArray,List.length_cons,List.length_nil,Nat.reduceAdd,Nat.reduceSub,Array.replicate_succ,Array.replicate_zero,List.push_toArray,List.append_toArray,List.nil_append,List.cons_append]
 gi_wp2
 refine ⟨trivial,rfl,CallsIn.mono (q1.out _) ?_⟩
 rintro e w' (⟨rfl,hJ2,hk2⟩ | ⟨rfl,hx⟩)
 ·have d1:=box_kq hb'.out _ _ hk2 1 _ rfl
  have q2:=Lib.hid (parts_in l 2 (a:Int) n hn'.out S J Jx (k + 1) w' (hR'.out.parts hs'.out.tail) hJ2)
  have hk2':=Lib.hid hk2
  clear q1 hk2
  gi_wp2
  refine ⟨trivial,rfl,CallsIn.mono (q2.out) ?_⟩
  rintro e w2 (⟨rfl,hJ3,hk3⟩ | ⟨rfl,hx⟩)
  ·gi_wp2
   go_ret
   exact .inl ⟨rfl,by rw [Nat.add_comm n 1,← Nat.add_assoc];exact hJ3,((Kq.alloc S W _).trans hk2'.out).trans hk3⟩
  ·gi_wp2
   go_ret
   exact .inr ⟨rfl,hx⟩
 ·gi_wp2
  refine ⟨trivial,?_⟩
  gi_wp2
  go_ret
  exact .inr ⟨rfl,hx⟩
-- the chains,by gen/zn.py
set_option maxRecDepth 100000 in
set_option maxHeartbeats 8000000 in
theorem tstate_in (l:Nat) (xs:List It) (S:Nat → Prop) (J Jx:Nat → World → Prop) (hR:Rnd Tryz.prog l xs S J Jx) (a:Nat) (nm t:ByteArray) (p pk pc:Option Addr) (n c nk ck m cm:Nat) (hn:n ≤ 1048576) (hm:m ≤ 1048576) (k:Nat) (hs:Sub xs k (encS a n m)) (W:World) (hb:∀ b,S b → b < W.heap.size) (h0:J k W) :
  CallsIn Fence.wide 0 Tryz.prog 55 #[yv l,.int .i64 (a:Int),.agg #[.string nm,.slice p n c,.string t,.slice pk nk ck,.slice pc m cm]] W (Came S J Jx k (n + m + 2) W):=by
 have hR':=Lib.hid hR
 have hs':=Lib.hid hs
 have hb':=Lib.hid hb
 have hn':=Lib.hid hn
 have hm':=Lib.hid hm
 have t1:=hs.tail.right
 rw [ptI_len] at t1
 have t1':=Lib.hid t1
 clear t1 hn hm
 have q1:=Lib.hid (fun o:Obj=>one_in l 4 (a:Int) S J Jx k (W.alloc o) (hR.one hs.head (lays_alloc hR.lays h0 o)))
 clear hR hs hb h0
 refine callsIn_of_wp Tryz.func55 rfl trivial ?_ rfl
 simp only [Tryz.ntmps55,List.size_toArray,List.length_cons,List.length_nil,Nat.reduceAdd,Nat.reduceSub,Array.replicate_succ,Array.replicate_zero,List.push_toArray,List.append_toArray,List.nil_append,List.cons_append]
 gi_wp2
 refine ⟨trivial,rfl,CallsIn.mono (q1.out _) ?_⟩
 rintro e w1 (⟨rfl,hJ1,hk1⟩ | ⟨rfl,hx⟩)
 ·have hA1:=hk1
  have d1:=box_kq hb'.out _ _ hA1 1 _ rfl
  have q2:=Lib.hid (parts_in l 5 (a:Int) n hn'.out S J Jx (k + 1) w1 (hR'.out.parts hs'.out.tail.left) hJ1)
  have hA1':=Lib.hid hA1
  clear q1 hk1 hA1 hJ1
  gi_wp2
  refine ⟨trivial,rfl,CallsIn.mono (q2.out) ?_⟩
  rintro e w2 (⟨rfl,hJ2,hk2⟩ | ⟨rfl,hx⟩)
  ·have hA2:=hA1'.out.trans hk2
   have q3:=Lib.hid (one_in l 6 (a:Int) S J Jx (k + 1 + n) w2 (hR'.out.one t1'.out.head hJ2))
   have hA2':=Lib.hid hA2
   clear q2 hk2 hA2 hJ2
   gi_wp2
   refine ⟨trivial,rfl,CallsIn.mono (q3.out) ?_⟩
   rintro e w3 (⟨rfl,hJ3,hk3⟩ | ⟨rfl,hx⟩)
   ·have hA3:=hA2'.out.trans hk3
    have d4:=box_kq hb'.out _ _ hA3 4 _ rfl
    have q4:=Lib.hid (parts_in l 7 (a:Int) m hm'.out S J Jx (k + 1 + n + 1) w3 (hR'.out.parts t1'.out.tail) hJ3)
    have hA3':=Lib.hid hA3
    clear q3 hk3 hA3 hJ3
    gi_wp2
    refine ⟨trivial,rfl,CallsIn.mono (q4.out) ?_⟩
    rintro e w4 (⟨rfl,hJ4,hk4⟩ | ⟨rfl,hx⟩)
    ·have hA4:=hA3'.out.trans hk4
     gi_wp2
     go_ret
     exact .inl ⟨rfl,by rw [show k + (n + m + 2) = k + 1 + n + 1 + m by omega];exact hJ4,(Kq.alloc S W _).trans hA4⟩
    ·gi_wp2
     go_ret
     exact .inr ⟨rfl,hx⟩
   ·gi_wp2
    refine ⟨trivial,?_⟩
    gi_wp2
    go_ret
    exact .inr ⟨rfl,hx⟩
  ·gi_wp2
   refine ⟨trivial,?_⟩
   gi_wp2
   refine ⟨trivial,?_⟩
   gi_wp2
   go_ret
   exact .inr ⟨rfl,hx⟩
 ·gi_wp2
  refine ⟨trivial,?_⟩
  gi_wp2
  refine ⟨trivial,?_⟩
  gi_wp2
  refine ⟨trivial,?_⟩
  gi_wp2
  go_ret
  exact .inr ⟨rfl,hx⟩
set_option maxRecDepth 100000 in
set_option maxHeartbeats 8000000 in
theorem ttable_in (l:Nat) (xs:List It) (S:Nat → Prop) (J Jx:Nat → World → Prop) (hR:Rnd Tryz.prog l xs S J Jx) (a:Nat) (nm dn:ByteArray) (p pk pc:Option Addr) (n c m cm dl dc:Nat) (hn:n ≤ 1048576) (hm:m ≤ 1048576) (k:Nat) (hs:Sub xs k (encT a n m)) (W:World) (hb:∀ b,S b → b < W.heap.size) (h0:J k W) :
  CallsIn Fence.wide 0 Tryz.prog 59 #[yv l,.int .i64 (a:Int),.agg #[.string nm,.slice p n c,.slice pk m cm,.string dn,.slice pc dl dc]] W (Came S J Jx k (n + m + 2) W):=by
 have hR':=Lib.hid hR
 have hs':=Lib.hid hs
 have hb':=Lib.hid hb
 have hn':=Lib.hid hn
 have hm':=Lib.hid hm
 have t1:=hs.tail.right
 rw [ptI_len] at t1
 have t2:=t1.right
 rw [ptI_len] at t2
 have t1':=Lib.hid t1
 have t2':=Lib.hid t2
 clear t1 t2 hn hm
 have q1:=Lib.hid (fun o:Obj=>one_in l 11 (a:Int) S J Jx k (W.alloc o) (hR.one hs.head (lays_alloc hR.lays h0 o)))
 clear hR hs hb h0
 refine callsIn_of_wp Tryz.func59 rfl trivial ?_ rfl
 simp only [Tryz.ntmps59,List.size_toArray,List.length_cons,List.length_nil,Nat.reduceAdd,Nat.reduceSub,Array.replicate_succ,Array.replicate_zero,List.push_toArray,List.append_toArray,List.nil_append,List.cons_append]
 gi_wp2
 refine ⟨trivial,rfl,CallsIn.mono (q1.out _) ?_⟩
 rintro e w1 (⟨rfl,hJ1,hk1⟩ | ⟨rfl,hx⟩)
 ·have hA1:=hk1
  have d1:=box_kq hb'.out _ _ hA1 1 _ rfl
  have q2:=Lib.hid (parts_in l 12 (a:Int) n hn'.out S J Jx (k + 1) w1 (hR'.out.parts hs'.out.tail.left) hJ1)
  have hA1':=Lib.hid hA1
  clear q1 hk1 hA1 hJ1
  gi_wp2
  refine ⟨trivial,rfl,CallsIn.mono (q2.out) ?_⟩
  rintro e w2 (⟨rfl,hJ2,hk2⟩ | ⟨rfl,hx⟩)
  ·have hA2:=hA1'.out.trans hk2
   have d2:=box_kq hb'.out _ _ hA2 2 _ rfl
   have q3:=Lib.hid (parts_in l 13 (a:Int) m hm'.out S J Jx (k + 1 + n) w2 (hR'.out.parts t1'.out.left) hJ2)
   have hA2':=Lib.hid hA2
   clear q2 hk2 hA2 hJ2
   gi_wp2
   refine ⟨trivial,rfl,CallsIn.mono (q3.out) ?_⟩
   rintro e w3 (⟨rfl,hJ3,hk3⟩ | ⟨rfl,hx⟩)
   ·have hA3:=hA2'.out.trans hk3
    have q4:=Lib.hid (one_in l 14 (a:Int) S J Jx (k + 1 + n + m) w3 (hR'.out.one t2'.out.head hJ3))
    have hA3':=Lib.hid hA3
    clear q3 hk3 hA3 hJ3
    gi_wp2
    refine ⟨trivial,rfl,CallsIn.mono (q4.out) ?_⟩
    rintro e w4 (⟨rfl,hJ4,hk4⟩ | ⟨rfl,hx⟩)
    ·have hA4:=hA3'.out.trans hk4
     gi_wp2
     go_ret
     exact .inl ⟨rfl,by rw [show k + (n + m + 2) = k + 1 + n + m + 1 by omega];exact hJ4,(Kq.alloc S W _).trans hA4⟩
    ·gi_wp2
     go_ret
     exact .inr ⟨rfl,hx⟩
   ·gi_wp2
    refine ⟨trivial,?_⟩
    gi_wp2
    go_ret
    exact .inr ⟨rfl,hx⟩
  ·gi_wp2
   refine ⟨trivial,?_⟩
   gi_wp2
   refine ⟨trivial,?_⟩
   gi_wp2
   go_ret
   exact .inr ⟨rfl,hx⟩
 ·gi_wp2
  refine ⟨trivial,?_⟩
  gi_wp2
  refine ⟨trivial,?_⟩
  gi_wp2
  refine ⟨trivial,?_⟩
  gi_wp2
  go_ret
  exact .inr ⟨rfl,hx⟩
set_option maxRecDepth 100000 in
set_option maxHeartbeats 8000000 in
theorem taction_in (l:Nat) (xs:List It) (S:Nat → Prop) (J Jx:Nat → World → Prop) (hR:Rnd Tryz.prog l xs S J Jx) (a:Nat) (nm:ByteArray) (p pk:Option Addr) (n c m cm:Nat) (ys:List It) (hn:n ≤ 1048576) (k:Nat) (hs:Sub xs k (.num 8 a 0 :: (ptI 9 a n++ys))) (W:World) (hb:∀ b,S b → b < W.heap.size) (h0:J k W)
  (hbl:∀ (k':Nat) (W1:World),Kq S W W1 → Sub xs k' ys → J k' W1 → CallsIn Fence.wide 0 Tryz.prog 60 #[yv l,.int .i64 (a:Int),.slice pk m cm] W1 (Came S J Jx k' ys.length W1)) :
  CallsIn Fence.wide 0 Tryz.prog 57 #[yv l,.int .i64 (a:Int),.agg #[.string nm,.slice p n c,.slice pk m cm]] W (Came S J Jx k (n + ys.length + 1) W):=by
 have hR':=Lib.hid hR
 have hs':=Lib.hid hs
 have hb':=Lib.hid hb
 have hn':=Lib.hid hn
 have t1:=hs.tail.right
 rw [ptI_len] at t1
 have t1':=Lib.hid t1
 have hbl':=Lib.hid hbl
 clear t1 hn hbl
 have q1:=Lib.hid (fun o:Obj=>one_in l 8 (a:Int) S J Jx k (W.alloc o) (hR.one hs.head (lays_alloc hR.lays h0 o)))
 clear hR hs hb h0
 refine callsIn_of_wp Tryz.func57 rfl trivial ?_ rfl
 simp only [Tryz.ntmps57,List.size_toArray,List.length_cons,List.length_nil,Nat.reduceAdd,Nat.reduceSub,Array.replicate_succ,Array.replicate_zero,List.push_toArray,List.append_toArray,List.nil_append,List.cons_append]
 gi_wp2
 refine ⟨trivial,rfl,CallsIn.mono (q1.out _) ?_⟩
 rintro e w1 (⟨rfl,hJ1,hk1⟩ | ⟨rfl,hx⟩)
 ·have hA1:=hk1
  have d1:=box_kq hb'.out _ _ hA1 1 _ rfl
  have q2:=Lib.hid (parts_in l 9 (a:Int) n hn'.out S J Jx (k + 1) w1 (hR'.out.parts hs'.out.tail.left) hJ1)
  have hA1':=Lib.hid hA1
  clear q1 hk1 hA1 hJ1
  gi_wp2
  refine ⟨trivial,rfl,CallsIn.mono (q2.out) ?_⟩
  rintro e w2 (⟨rfl,hJ2,hk2⟩ | ⟨rfl,hx⟩)
  ·have hA2:=hA1'.out.trans hk2
   have d2:=box_kq hb'.out _ _ hA2 2 _ rfl
   have q3:=Lib.hid (hbl'.out (k + 1 + n) w2 ((Kq.alloc S W _).trans hA2) t1'.out hJ2)
   have hA2':=Lib.hid hA2
   clear q2 hk2 hA2 hJ2
   gi_wp2
   refine ⟨trivial,rfl,CallsIn.mono (q3.out) ?_⟩
   rintro e w3 (⟨rfl,hJ3,hk3⟩ | ⟨rfl,hx⟩)
   ·have hA3:=hA2'.out.trans hk3
    gi_wp2
    go_ret
    exact .inl ⟨rfl,by rw [show k + (n + ys.length + 1) = k + 1 + n + ys.length by omega];exact hJ3,(Kq.alloc S W _).trans hA3⟩
   ·gi_wp2
    go_ret
    exact .inr ⟨rfl,hx⟩
  ·gi_wp2
   refine ⟨trivial,?_⟩
   gi_wp2
   go_ret
   exact .inr ⟨rfl,hx⟩
 ·gi_wp2
  refine ⟨trivial,?_⟩
  gi_wp2
  refine ⟨trivial,?_⟩
  gi_wp2
  go_ret
  exact .inr ⟨rfl,hx⟩
end Go.Proofs.YtlmhldcebllckaaGreat
namespace Go.Proofs.YtlmhldcebllckaaGreat
open Go.RowKit Go.Shelf
attribute [local go_sem] Oper.semAt_some
mutual
/-- The items of a statement: its own, then those of its blocks. -/
def St.enc (a:Int):St → List It
 | .mk k hd nm e p c l q c2 l2=>.st a (.mk k hd nm e p c l q c2 l2) :: (St.encs a l++St.encs a l2)
def St.encs (a:Int):List St → List It
 | []=>[]
 | s :: l=>s.enc a++St.encs a l
end
theorem St.enc_eq (a:Int) (s:St):s.enc a = .st a s :: (St.encs a s.thn++St.encs a s.els):=by cases s;rw [St.enc];rfl
theorem St.encs_fl (a:Int):∀ (l:List St) (b:Nat),St.encs a l = flI (fun _ s=>s.enc a) b l
 | [],_=>by rw [St.encs];rfl
 | s :: l,b=>by rw [St.encs,St.encs_fl a l (b + 1)];rfl
theorem St.encs_len (a:Int) (l:List St):(St.encs a l).length = (l.map fun s=>(s.enc a).length).sum:=by rw [St.encs_fl a l 0];exact flI_len (fun _ s=>St.enc a s) (fun s=>(s.enc a).length) (fun _ _=>rfl) l 0
def BlkAt (L:Sl St):Prop:=∀ (l:Nat) (xs:List It) (S:Nat → Prop) (J Jx:Nat → World → Prop),Rnd Tryz.prog l xs S J Jx → ∀ (a:Int) (w:World),(∀ b,S b → w.heap.size ≤ b) → L.In w 14 St.cells (St.In w) → L.size St.sz ≤ 1048576 →
 ∀ (k:Nat) (W:World),Kq S w W → (∀ b,S b → b < W.heap.size) → Sub xs k (St.encs a L.l) → J k W →
 CallsIn Fence.wide 0 Tryz.prog 60 #[yv l,.int .i64 a,L.v] W (Came S J Jx k (St.encs a L.l).length W)
set_option maxRecDepth 100000 in
set_option maxHeartbeats 8000000 in
theorem tblock1_of (l:Nat) (S:Nat → Prop) (J Jx:Nat → World → Prop) (hJ:Lays J) (a:Int) (i:Int) (skd:Int) (shd snm:ByteArray) (sop slw slh sll:Int) (sehd senm:ByteArray) (shi slo:Int) (sep:Option Addr) (sen sec:Nat) (stp:Option Addr) (stn stc:Nat) (sup:Option Addr) (sun suc:Nat) (c d:Nat) (k m n:Nat) (W:World) (hb:∀ b,S b → b < W.heap.size) (h0:J k W)
  (hc:∀ W1,Kq S W W1 → W1.cell? ⟨c,0,none⟩ = some (yv l)) (hd:∀ W1,Kq S W W1 → W1.cell? ⟨d,0,none⟩ = some (.int .i64 a))
  (hy:∀ W1,J k W1 → YieldAt Fence.wide 0 Tryz.prog l #[.agg #[.int .u8 10,.int .i64 a,.int .i64 0,.int .u8 skd,.string shd,.string snm,.int .u8 sop,.int .i64 slw,.int .u64 slh,.int .u64 sll,.string sehd,.string senm,.int .i64 shi,.int .i64 slo,.slice sep sen sec,.slice stp stn stc,.slice sup sun suc]] W1 (Came S J Jx k 1 W1))
  (h1:∀ W1,Kq S W W1 → J (k + 1) W1 → CallsIn Fence.wide 0 Tryz.prog 60 #[yv l,.int .i64 a,.slice stp stn stc] W1 (Came S J Jx (k + 1) m W1))
  (h2:∀ W1,Kq S W W1 → J (k + 1 + m) W1 → CallsIn Fence.wide 0 Tryz.prog 60 #[yv l,.int .i64 a,.slice sup sun suc] W1 (Came S J Jx (k + 1 + m) n W1)) :
  CallsIn Fence.wide 0 Tryz.prog 106 #[.int .i64 i,.agg #[.int .u8 skd,.string shd,.string snm,.int .u8 sop,.int .i64 slw,.int .u64 slh,.int .u64 sll,.string sehd,.string senm,.int .i64 shi,.int .i64 slo,.slice sep sen sec,.slice stp stn stc,.slice sup sun suc],.pointer (some ⟨c,0,none⟩),.pointer (some ⟨d,0,none⟩)] W (Came S J Jx k (1 + (m + n)) W):=by
 have hb':=Lib.hid hb
 have h1':=Lib.hid h1
 have h2':=Lib.hid h2
 have hc':=Lib.hid hc
 have hd':=Lib.hid hd
 have hy':=Lib.hid (fun o:Obj=>hy (W.alloc o) (lays_alloc hJ h0 o))
 have c0:=fun o:Obj=>hc (W.alloc o) (Kq.alloc S W o)
 have d0:=fun o:Obj=>hd (W.alloc o) (Kq.alloc S W o)
 clear hb h1 h2 hc hd hy h0 hJ
 refine callsIn_of_wp Tryz.func106 rfl trivial ?_ rfl
 simp only [Tryz.ntmps106,List.size_toArray,List.length_cons,List.length_nil,Nat.reduceAdd,Nat.reduceSub,Array.replicate_succ,Array.replicate_zero,List.push_toArray,List.append_toArray,List.nil_append,List.cons_append]
 obtain ⟨fn,tmps,assign,body,hy1,hR⟩:=hy'.out (.cells #[.int .u8 skd,.string shd,.string snm,.int .u8 sop,.int .i64 slw,.int .u64 slh,.int .u64 sll,.string sehd,.string senm,.int .i64 shi,.int .i64 slo,.slice sep sen sec,.slice stp stn stc,.slice sup sun suc] 75)
 have hR':=Lib.hid hR
 clear hR hy'
 gi_wp2
 refine ⟨rfl,(round_wide hR'.out).mono ?_⟩
 rintro e w1 (⟨rfl,hJ1,hk1⟩ | ⟨rfl,hx⟩)
 ·have hA1:=(Kq.alloc S W _).trans hk1
  have e4:=box_kq hb'.out _ _ hk1 12 _ rfl
  have c1:=hc'.out _ hA1
  have d1:=hd'.out _ hA1
  have q1:=Lib.hid (h1'.out w1 hA1 hJ1)
  have hk1':=Lib.hid hk1
  clear c0 d0 hy1 hk1 hA1 hJ1
  gi_wp2
  refine ⟨trivial,rfl,CallsIn.mono q1.out ?_⟩
  rintro e w2 (⟨rfl,hJ2,hk2⟩ | ⟨rfl,hx⟩)
  ·have hB2:=hk1'.out.trans hk2
   have hA2:=(Kq.alloc S W _).trans hB2
   have e5:=box_kq hb'.out _ _ hB2 13 _ rfl
   have c2:=hc'.out _ hA2
   have d2:=hd'.out _ hA2
   have q2:=Lib.hid (h2'.out w2 hA2 hJ2)
   have hA2':=Lib.hid hA2
   clear c1 d1 e4 hk2 hB2 hA2 hJ2 q1
   gi_wp2
   refine ⟨trivial,rfl,CallsIn.mono q2.out ?_⟩
   rintro e w3 (⟨rfl,hJ3,hk3⟩ | ⟨rfl,hx⟩)
   ·gi_wp2
    go_ret
    exact .inl ⟨rfl,by rw [show k + (1 + (m + n)) = k + 1 + m + n by omega];exact hJ3,hA2'.out.trans hk3⟩
   ·gi_wp2
    go_ret
    exact .inr ⟨rfl,hx⟩
  ·gi_wp2
   refine ⟨trivial,?_⟩
   gi_wp2
   go_ret
   exact .inr ⟨rfl,hx⟩
 ·clear c0 d0 hy1
  gi_wp2
  refine ⟨trivial,?_⟩
  gi_wp2
  refine ⟨trivial,?_⟩
  gi_wp2
  go_ret
  exact .inr ⟨rfl,hx⟩
theorem two_boxes (V:World) (x y:Value) (t u:TypeId):((V.alloc (.cells #[x] t)).alloc (.cells #[y] u)).cell? ⟨V.heap.size,0,none⟩ = some x ∧ ((V.alloc (.cells #[x] t)).alloc (.cells #[y] u)).cell? ⟨V.heap.size + 1,0,none⟩ = some y ∧ ((V.alloc (.cells #[x] t)).alloc (.cells #[y] u)).heap.size = V.heap.size + 1 + 1:=by
 obtain ⟨W,hW,-,hs,ca,cb,-,-⟩:=box2 V #[x] #[y] t u
 have a:=ca 0 _ rfl ⟨#[],W.drawn⟩
 have b:=cb 0 _ rfl ⟨#[],W.drawn⟩
 rw [plus_self] at a b
 rw [← hW]
 exact ⟨a,b,hs⟩
set_option maxRecDepth 100000 in
set_option maxHeartbeats 8000000 in
theorem tblock_of (L:Sl St) (ih:∀ x ∈ L.l,BlkAt x.thnS ∧ BlkAt x.elsS):BlkAt L:=by
 intro l xs S J Jx hR a w hS hin hz k W hw hb hs h0
 have hlen:=len_le St.sz St.sz_pos L hz
 obtain ⟨c,hc⟩:∃ c,W.heap.size = c:=⟨_,rfl⟩
 have hmain:∀ V,Kq S W V → V.cell? ⟨c,0,none⟩ = some (yv l) → V.cell? ⟨c + 1,0,none⟩ = some (.int .i64 a) → c + 1 < V.heap.size → J k V →
   CallsIn Fence.wide 0 Tryz.prog 105 #[L.v,.func (.func 106) #[] #[.pointer (some ⟨c,0,none⟩),.pointer (some ⟨c + 1,0,none⟩)]] V (Came S J Jx k (St.encs a L.l).length V):=by
  intro V hV hc1 hc2 hsz hJk
  rw [St.encs_len]
  have hbV:∀ b,S b → b < V.heap.size:=fun b h=>Nat.lt_of_lt_of_le (hb b h) hV.size
  have hnc:¬ S c:=fun h=>Nat.lt_irrefl _ (hc ▸ hb c h)
  have hnd:¬ S (c + 1):=fun h=>by have:=hb _ h;omega
  have hsf:Sub xs k (flI (fun _ s=>St.enc a s) 0 L.l):=by rw [← St.encs_fl];exact hs
  refine eachr_Stmt St.cells shp_st (fun s=>(St.enc a s).length) 106 #[] #[.pointer (some ⟨c,0,none⟩),.pointer (some ⟨c + 1,0,none⟩)] (St.In w) S J Jx hR.lays w hS L hin hlen (enters_of Tryz.func106 (by kernel_rfl) rfl) k V (hw.trans hV) hbV hJk ?_
  intro i x W1 hx hK hJi
  have hmem:x ∈ L.l:=List.mem_of_getElem? hx
  have hxz:x.sz ≤ 1048576:=Nat.le_trans (le_sum_of St.sz L.l x hmem) hz
  have h1z:=St.sz_eq x
  have hxin:=hin.kids x hmem
  have sx:Sub xs (k + upI (fun s=>(St.enc a s).length) L.l i) (St.enc a x):=Sub.at (fun _ s=>St.enc a s) (fun s=>(St.enc a s).length) (fun _ _=>rfl) L.l k 0 i x hsf hx
  rw [St.enc_eq] at sx
  have hwV:Kq S w W1:=(hw.trans hV).trans hK
  have hbW:∀ b,S b → b < W1.heap.size:=fun b h=>Nat.lt_of_lt_of_le (hbV b h) hK.size
  have q:=tblock1_of l S J Jx hR.lays a (i:Int) x.kind x.head x.name x.e.op x.e.lit.w x.e.lit.h x.e.lit.l x.e.head x.e.name x.e.hi x.e.lo x.e.p x.e.args.length x.e.cap x.p x.thn.length x.cap x.q x.els.length x.cbp c (c + 1) (k + upI (fun s=>(St.enc a s).length) L.l i) (St.encs a x.thn).length (St.encs a x.els).length W1 hbW hJi
   (fun W2 h=>(hK.trans h).cell _ _ hnc hc1) (fun W2 h=>(hK.trans h).cell _ _ hnd hc2)
   (fun W2 h=>hR.next _ (.st a x) W2 sx.head h)
   (fun W2 h hj=>(ih x hmem).1 l xs S J Jx hR a w hS (St.In.inThn hxin) (show (x.thn.map St.sz).sum ≤ _ by omega) _ W2 (hwV.trans h) (fun b hb=>Nat.lt_of_lt_of_le (hbW b hb) h.size) sx.tail.left hj)
   (fun W2 h hj=>(ih x hmem).2 l xs S J Jx hR a w hS (St.In.inEls hxin) (show (x.els.map St.sz).sum ≤ _ by omega) _ W2 (hwV.trans h) (fun b hb=>Nat.lt_of_lt_of_le (hbW b hb) h.size) sx.tail.right hj)
  rw [show (St.enc a x).length = 1 + ((St.encs a x.thn).length + (St.encs a x.els).length) by rw [St.enc_eq];simp;omega]
  exact q
 have hmain':=Lib.hid hmain
 have h0':=Lib.hid h0
 have hR':=Lib.hid hR
 have hb':=Lib.hid hb
 have hc':=Lib.hid hc
 obtain ⟨p,cap,ll⟩:=L
 simp only [Sl.v] at hmain' ⊢
 generalize ll.length = n1 at hmain' ⊢
 clear hmain h0 hR hb hc hin hz hs hw hS hlen ih
 refine callsIn_of_wp Tryz.func60 rfl trivial ?_ rfl
 simp only [Tryz.ntmps60,List.size_toArray,List.length_cons,List.length_nil,Nat.reduceAdd,Nat.reduceSub,Array.replicate_succ,Array.replicate_zero,List.push_toArray,List.append_toArray,List.nil_append,List.cons_append]
 gi_wp2
 have hA:=(Kq.alloc S W (.cells #[yv l] 107)).trans (Kq.alloc S _ (.cells #[.int .i64 a] 3))
 obtain ⟨b1,b2,bs⟩:=two_boxes W (yv l) (.int .i64 a) 107 3
 have e:=hc'.out
 refine ⟨trivial,rfl,CallsIn.mono (by rw [e] at b1 b2 bs ⊢;exact hmain'.out _ hA b1 b2 (by rw [bs];omega) (lays_alloc hR'.out.lays (lays_alloc hR'.out.lays h0'.out _) _)) ?_⟩
 rintro r w' (⟨rfl,hJ,hk⟩ | ⟨rfl,hx⟩)
 ·gi_wp2
  go_ret
  exact .inl ⟨rfl,hJ,hA.trans hk⟩
 ·gi_wp2
  go_ret
  exact .inr ⟨rfl,hx⟩
theorem tblocks_at:∀ s:St,BlkAt s.thnS ∧ BlkAt s.elsS:=fun s=>St.ind (Q:=fun s=>BlkAt s.thnS ∧ BlkAt s.elsS) (fun s h1 h2=>⟨tblock_of s.thnS fun x hx=>h1 x hx,tblock_of s.elsS fun x hx=>h2 x hx⟩) s
theorem blockT_in (L:Sl St):BlkAt L:=tblock_of L fun x _=>tblocks_at x
end Go.Proofs.YtlmhldcebllckaaGreat
