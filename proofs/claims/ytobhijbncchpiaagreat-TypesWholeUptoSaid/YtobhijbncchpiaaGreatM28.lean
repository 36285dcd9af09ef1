/-
  WHAT IS PROVED HERE: a part of the proof (made narrower and merged by program; the parts: Dn Do Dp).
-/
import Derived.Test.YtobhijbncchpiaaGreatM27
namespace Go.Proofs.YtobhijbncchpiaaGreat
open Go.RowKit Go.Shelf
attribute [local go_sem] Oper.semAt_some
/-- What a round does when it is asked of the list's next item. -/
structure RndR (P:Program) (l:Nat) (xs:List It) (S:Bx) (J Jx:Nat→World→Prop):Prop where
 next:NextR P l It.v xs S J Jx
 lays:Lays J
theorem RndR.parts {P:Program} {l:Nat} {xs:List It} {S:Bx} {J Jx:Nat→World→Prop} (h:RndR P l xs S J Jx) {k:Nat} {kind:Int} {a n:Nat} (hs:Sub xs k (ptI kind a n)):∀ j W1,j < n→J (k+j) W1→YieldAt Fence.wide 0 P l #[itV kind a (j:Int)] W1 (CameR S J Jx (k+j) 1 W1):=fun j W1 hj hJ=>h.next (k+j) (.num kind a j) W1 (hs j _ (ptI_at kind a n j hj)) hJ
theorem RndR.one {P:Program} {l:Nat} {xs:List It} {S:Bx} {J Jx:Nat→World→Prop} (h:RndR P l xs S J Jx) {k:Nat} {kind:Int} {a:Nat} (hs:xs[k]?=some (.num kind a 0)) {W:World} (hJ:J k W):YieldAt Fence.wide 0 P l #[itV kind a 0] W (CameR S J Jx k 1 W):=h.next k (.num kind a 0) W hs hJ
set_option maxRecDepth 100000 in
set_option maxHeartbeats 8000000 in
theorem theader_inR (l:Nat) (xs:List It) (S:Bx) (J Jx:Nat→World→Prop) (hR:RndR Tryz.prog l xs S J Jx) (a:Nat) (nm:ByteArray) (p:Option Addr) (n c:Nat) (hn:n≤1048576) (k:Nat) (hs:Sub xs k (encH a n)) (W:World) (hb:∀ b,S.f b→b < W.heap.size) (h0:J k W) :
  CallsIn Fence.wide 0 Tryz.prog 68 #[yv l,.int .i64 (a:Int),.agg #[.string nm,.slice p n c]] W (CameR S J Jx k (n+1) W):=by
 have hR':=Lib.hid hR
 have hn':=Lib.hid hn
 have hs':=Lib.hid hs
 have hb':=Lib.hid hb
 have h0':=Lib.hid h0
 have q1:=Lib.hid (fun o:Obj=>one_inR l 1 (a:Int) S J Jx k (W.alloc o) (hR.one hs.head (lays_alloc hR.lays h0 o)))
 clear hR hn hs hb h0
 refine callsIn_of_wp Tryz.func68 rfl trivial ?_ rfl
 simp only [Tryz.ntmps68,List.size_toArray,List.length_cons,List.length_nil,Nat.reduceAdd,Nat.reduceSub,Array.replicate_succ,Array.replicate_zero,List.push_toArray,List.append_toArray,List.nil_append,List.cons_append]
 gi_wp2
 refine⟨trivial,rfl,CallsIn.mono (q1.out _) ?_⟩
 rintro e w' (⟨rfl,hJ2,hk2⟩ | ⟨rfl,hx⟩)
 ·have d1:=box_kr hb'.out _ _ hk2 1 _ rfl
  have q2:=Lib.hid (parts_inR l 2 (a:Int) n hn'.out S J Jx (k+1) w' (hR'.out.parts hs'.out.tail) hJ2)
  have hk2':=Lib.hid hk2
  clear q1 hk2
  gi_wp2
  refine⟨trivial,rfl,CallsIn.mono (q2.out) ?_⟩
  rintro e w2 (⟨rfl,hJ3,hk3⟩ | ⟨rfl,hx⟩)
  ·gi_wp2
   go_ret
   exact .inl ⟨rfl,by rw [Nat.add_comm n 1,← Nat.add_assoc];exact hJ3,((Kr.alloc S W _).trans hk2'.out).trans hk3⟩
  ·gi_wp2
   go_ret
   exact .inr ⟨rfl,hx⟩
 ·gi_wp2
  refine⟨trivial,?_⟩
  gi_wp2
  go_ret
  exact .inr ⟨rfl,hx⟩
-- the chains,by gen/zn.py
set_option maxRecDepth 100000 in
set_option maxHeartbeats 8000000 in
theorem tstate_inR (l:Nat) (xs:List It) (S:Bx) (J Jx:Nat→World→Prop) (hR:RndR Tryz.prog l xs S J Jx) (a:Nat) (nm t:ByteArray) (p pk pc:Option Addr) (n c nk ck m cm:Nat) (hn:n≤1048576) (hm:m≤1048576) (k:Nat) (hs:Sub xs k (encS a n m)) (W:World) (hb:∀ b,S.f b→b < W.heap.size) (h0:J k W) :
  CallsIn Fence.wide 0 Tryz.prog 73 #[yv l,.int .i64 (a:Int),.agg #[.string nm,.slice p n c,.string t,.slice pk nk ck,.slice pc m cm]] W (CameR S J Jx k (n+m+2) W):=by
 have hR':=Lib.hid hR
 have hs':=Lib.hid hs
 have hb':=Lib.hid hb
 have hn':=Lib.hid hn
 have hm':=Lib.hid hm
 have t1:=hs.tail.right
 rw [ptI_len] at t1
 have t1':=Lib.hid t1
 clear t1 hn hm
 have q1:=Lib.hid (fun o:Obj=>one_inR l 4 (a:Int) S J Jx k (W.alloc o) (hR.one hs.head (lays_alloc hR.lays h0 o)))
 clear hR hs hb h0
 refine callsIn_of_wp Tryz.func73 rfl trivial ?_ rfl
 simp only [Tryz.ntmps73,List.size_toArray,List.length_cons,List.length_nil,Nat.reduceAdd,Nat.reduceSub,Array.replicate_succ,Array.replicate_zero,List.push_toArray,List.append_toArray,List.nil_append,List.cons_append]
 gi_wp2
 refine⟨trivial,rfl,CallsIn.mono (q1.out _) ?_⟩
 rintro e w1 (⟨rfl,hJ1,hk1⟩ | ⟨rfl,hx⟩)
 ·have hA1:=hk1
  have d1:=box_kr hb'.out _ _ hA1 1 _ rfl
  have q2:=Lib.hid (parts_inR l 5 (a:Int) n hn'.out S J Jx (k+1) w1 (hR'.out.parts hs'.out.tail.left) hJ1)
  have hA1':=Lib.hid hA1
  clear q1 hk1 hA1 hJ1
  gi_wp2
  refine⟨trivial,rfl,CallsIn.mono (q2.out) ?_⟩
  rintro e w2 (⟨rfl,hJ2,hk2⟩ | ⟨rfl,hx⟩)
  ·have hA2:=hA1'.out.trans hk2
   have q3:=Lib.hid (one_inR l 6 (a:Int) S J Jx (k+1+n) w2 (hR'.out.one t1'.out.head hJ2))
   have hA2':=Lib.hid hA2
   clear q2 hk2 hA2 hJ2
   gi_wp2
   refine⟨trivial,rfl,CallsIn.mono (q3.out) ?_⟩
   rintro e w3 (⟨rfl,hJ3,hk3⟩ | ⟨rfl,hx⟩)
   ·have hA3:=hA2'.out.trans hk3
    have d4:=box_kr hb'.out _ _ hA3 4 _ rfl
    have q4:=Lib.hid (parts_inR l 7 (a:Int) m hm'.out S J Jx (k+1+n+1) w3 (hR'.out.parts t1'.out.tail) hJ3)
    have hA3':=Lib.hid hA3
    clear q3 hk3 hA3 hJ3
    gi_wp2
    refine⟨trivial,rfl,CallsIn.mono (q4.out) ?_⟩
    rintro e w4 (⟨rfl,hJ4,hk4⟩ | ⟨rfl,hx⟩)
    ·have hA4:=hA3'.out.trans hk4
     gi_wp2
     go_ret
     exact .inl ⟨rfl,by rw [show k+(n+m+2)=k+1+n+1+m by omega];exact hJ4,(Kr.alloc S W _).trans hA4⟩
    ·gi_wp2
     go_ret
     exact .inr ⟨rfl,hx⟩
   ·gi_wp2
    refine⟨trivial,?_⟩
    gi_wp2
    go_ret
    exact .inr ⟨rfl,hx⟩
  ·gi_wp2
   refine⟨trivial,?_⟩
   gi_wp2
   refine⟨trivial,?_⟩
   gi_wp2
   go_ret
   exact .inr ⟨rfl,hx⟩
 ·gi_wp2
  refine⟨trivial,?_⟩
  gi_wp2
  refine⟨trivial,?_⟩
  gi_wp2
  refine⟨trivial,?_⟩
  gi_wp2
  go_ret
  exact .inr ⟨rfl,hx⟩
set_option maxRecDepth 100000 in
set_option maxHeartbeats 8000000 in
theorem ttable_inR (l:Nat) (xs:List It) (S:Bx) (J Jx:Nat→World→Prop) (hR:RndR Tryz.prog l xs S J Jx) (a:Nat) (nm dn:ByteArray) (p pk pc:Option Addr) (n c m cm dl dc:Nat) (hn:n≤1048576) (hm:m≤1048576) (k:Nat) (hs:Sub xs k (encT a n m)) (W:World) (hb:∀ b,S.f b→b < W.heap.size) (h0:J k W) :
  CallsIn Fence.wide 0 Tryz.prog 77 #[yv l,.int .i64 (a:Int),.agg #[.string nm,.slice p n c,.slice pk m cm,.string dn,.slice pc dl dc]] W (CameR S J Jx k (n+m+2) W):=by
 have hR':=Lib.hid hR
 have hs':=Lib.hid hs
 have hb':=Lib.hid hb
 have hn':=Lib.hid hn
 have hm':=Lib.hid hm
 have t1:=hs.tail.right
 rw [ptI_len] at t1
 have t2:=t1.right
 rw [ptI_len] at t2
 have t1':=Lib.hid t1
 have t2':=Lib.hid t2
 clear t1 t2 hn hm
 have q1:=Lib.hid (fun o:Obj=>one_inR l 11 (a:Int) S J Jx k (W.alloc o) (hR.one hs.head (lays_alloc hR.lays h0 o)))
 clear hR hs hb h0
 refine callsIn_of_wp Tryz.func77 rfl trivial ?_ rfl
 simp only [Tryz.ntmps77,List.size_toArray,List.length_cons,List.length_nil,Nat.reduceAdd,Nat.reduceSub,Array.replicate_succ,Array.replicate_zero,List.push_toArray,List.append_toArray,List.nil_append,List.cons_append]
 gi_wp2
 refine⟨trivial,rfl,CallsIn.mono (q1.out _) ?_⟩
 rintro e w1 (⟨rfl,hJ1,hk1⟩ | ⟨rfl,hx⟩)
 ·have hA1:=hk1
  have d1:=box_kr hb'.out _ _ hA1 1 _ rfl
  have q2:=Lib.hid (parts_inR l 12 (a:Int) n hn'.out S J Jx (k+1) w1 (hR'.out.parts hs'.out.tail.left) hJ1)
  have hA1':=Lib.hid hA1
  clear q1 hk1 hA1 hJ1
  gi_wp2
  refine⟨trivial,rfl,CallsIn.mono (q2.out) ?_⟩
  rintro e w2 (⟨rfl,hJ2,hk2⟩ | ⟨rfl,hx⟩)
  ·have hA2:=hA1'.out.trans hk2
   have d2:=box_kr hb'.out _ _ hA2 2 _ rfl
   have q3:=Lib.hid (parts_inR l 13 (a:Int) m hm'.out S J Jx (k+1+n) w2 (hR'.out.parts t1'.out.left) hJ2)
   have hA2':=Lib.hid hA2
   clear q2 hk2 hA2 hJ2
   gi_wp2
   refine⟨trivial,rfl,CallsIn.mono (q3.out) ?_⟩
   rintro e w3 (⟨rfl,hJ3,hk3⟩ | ⟨rfl,hx⟩)
   ·have hA3:=hA2'.out.trans hk3
    have q4:=Lib.hid (one_inR l 14 (a:Int) S J Jx (k+1+n+m) w3 (hR'.out.one t2'.out.head hJ3))
    have hA3':=Lib.hid hA3
    clear q3 hk3 hA3 hJ3
    gi_wp2
    refine⟨trivial,rfl,CallsIn.mono (q4.out) ?_⟩
    rintro e w4 (⟨rfl,hJ4,hk4⟩ | ⟨rfl,hx⟩)
    ·have hA4:=hA3'.out.trans hk4
     gi_wp2
     go_ret
     exact .inl ⟨rfl,by rw [show k+(n+m+2)=k+1+n+m+1 by omega];exact hJ4,(Kr.alloc S W _).trans hA4⟩
    ·gi_wp2
     go_ret
     exact .inr ⟨rfl,hx⟩
   ·gi_wp2
    refine⟨trivial,?_⟩
    gi_wp2
    go_ret
    exact .inr ⟨rfl,hx⟩
  ·gi_wp2
   refine⟨trivial,?_⟩
   gi_wp2
   refine⟨trivial,?_⟩
   gi_wp2
   go_ret
   exact .inr ⟨rfl,hx⟩
 ·gi_wp2
  refine⟨trivial,?_⟩
  gi_wp2
  refine⟨trivial,?_⟩
  gi_wp2
  refine⟨trivial,?_⟩
  gi_wp2
  go_ret
  exact .inr ⟨rfl,hx⟩
set_option maxRecDepth 100000 in
set_option maxHeartbeats 8000000 in
theorem taction_inR (l:Nat) (xs:List It) (S:Bx) (J Jx:Nat→World→Prop) (hR:RndR Tryz.prog l xs S J Jx) (a:Nat) (nm:ByteArray) (p pk:Option Addr) (n c m cm:Nat) (ys:List It) (hn:n≤1048576) (k:Nat) (hs:Sub xs k (.num 8 a 0 :: (ptI 9 a n++ys))) (W:World) (hb:∀ b,S.f b→b < W.heap.size) (h0:J k W)
  (hbl:∀ (k':Nat) (W1:World),Kr S W W1→Sub xs k' ys→J k' W1→CallsIn Fence.wide 0 Tryz.prog 78 #[yv l,.int .i64 (a:Int),.slice pk m cm] W1 (CameR S J Jx k' ys.length W1)) :
  CallsIn Fence.wide 0 Tryz.prog 75 #[yv l,.int .i64 (a:Int),.agg #[.string nm,.slice p n c,.slice pk m cm]] W (CameR S J Jx k (n+ys.length+1) W):=by
 have hR':=Lib.hid hR
 have hs':=Lib.hid hs
 have hb':=Lib.hid hb
 have hn':=Lib.hid hn
 have t1:=hs.tail.right
 rw [ptI_len] at t1
 have t1':=Lib.hid t1
 have hbl':=Lib.hid hbl
 clear t1 hn hbl
 have q1:=Lib.hid (fun o:Obj=>one_inR l 8 (a:Int) S J Jx k (W.alloc o) (hR.one hs.head (lays_alloc hR.lays h0 o)))
 clear hR hs hb h0
 refine callsIn_of_wp Tryz.func75 rfl trivial ?_ rfl
 simp only [Tryz.ntmps75,List.size_toArray,List.length_cons,List.length_nil,Nat.reduceAdd,Nat.reduceSub,Array.replicate_succ,Array.replicate_zero,List.push_toArray,List.append_toArray,List.nil_append,List.cons_append]
 gi_wp2
 refine⟨trivial,rfl,CallsIn.mono (q1.out _) ?_⟩
 rintro e w1 (⟨rfl,hJ1,hk1⟩ | ⟨rfl,hx⟩)
 ·have hA1:=hk1
  have d1:=box_kr hb'.out _ _ hA1 1 _ rfl
  have q2:=Lib.hid (parts_inR l 9 (a:Int) n hn'.out S J Jx (k+1) w1 (hR'.out.parts hs'.out.tail.left) hJ1)
  have hA1':=Lib.hid hA1
  clear q1 hk1 hA1 hJ1
  gi_wp2
  refine⟨trivial,rfl,CallsIn.mono (q2.out) ?_⟩
  rintro e w2 (⟨rfl,hJ2,hk2⟩ | ⟨rfl,hx⟩)
  ·have hA2:=hA1'.out.trans hk2
   have d2:=box_kr hb'.out _ _ hA2 2 _ rfl
   have q3:=Lib.hid (hbl'.out (k+1+n) w2 ((Kr.alloc S W _).trans hA2) t1'.out hJ2)
   have hA2':=Lib.hid hA2
   clear q2 hk2 hA2 hJ2
   gi_wp2
   refine⟨trivial,rfl,CallsIn.mono (q3.out) ?_⟩
   rintro e w3 (⟨rfl,hJ3,hk3⟩ | ⟨rfl,hx⟩)
   ·have hA3:=hA2'.out.trans hk3
    gi_wp2
    go_ret
    exact .inl ⟨rfl,by rw [show k+(n+ys.length+1)=k+1+n+ys.length by omega];exact hJ3,(Kr.alloc S W _).trans hA3⟩
   ·gi_wp2
    go_ret
    exact .inr ⟨rfl,hx⟩
  ·gi_wp2
   refine⟨trivial,?_⟩
   gi_wp2
   go_ret
   exact .inr ⟨rfl,hx⟩
 ·gi_wp2
  refine⟨trivial,?_⟩
  gi_wp2
  refine⟨trivial,?_⟩
  gi_wp2
  go_ret
  exact .inr ⟨rfl,hx⟩
open Go.Shelf
attribute [local go_sem] Oper.semAt_some
def BlkAtR (L:Sl St):Prop:=∀ (l:Nat) (xs:List It) (S:Bx) (J Jx:Nat→World→Prop),RndR Tryz.prog l xs S J Jx→∀ (a:Int) (w:World),(S.over w.heap.size)→L.In w 14 St.cells (St.In w)→L.size St.sz≤1048576 →
 ∀ (k:Nat) (W:World),Kr S w W→(∀ b,S.f b→b < W.heap.size)→Sub xs k (St.encs a L.l)→J k W →
 CallsIn Fence.wide 0 Tryz.prog 78 #[yv l,.int .i64 a,L.v] W (CameR S J Jx k (St.encs a L.l).length W)
set_option maxRecDepth 100000 in
set_option maxHeartbeats 8000000 in
theorem tblock1_ofR (l:Nat) (S:Bx) (J Jx:Nat→World→Prop) (hJ:Lays J) (a:Int) (i:Int) (skd:Int) (shd snm:ByteArray) (sop slw slh sll:Int) (sehd senm:ByteArray) (shi slo:Int) (sep:Option Addr) (sen sec:Nat) (stp:Option Addr) (stn stc:Nat) (sup:Option Addr) (sun suc:Nat) (c d:Nat) (k m n:Nat) (W:World) (hb:∀ b,S.f b→b < W.heap.size) (h0:J k W)
  (hc:∀ W1,Kr S W W1→W1.cell? ⟨c,0,none⟩=some (yv l)) (hd:∀ W1,Kr S W W1→W1.cell? ⟨d,0,none⟩=some (.int .i64 a))
  (hy:∀ W1,J k W1→YieldAt Fence.wide 0 Tryz.prog l #[.agg #[.int .u8 10,.int .i64 a,.int .i64 0,.int .u8 skd,.string shd,.string snm,.int .u8 sop,.int .i64 slw,.int .u64 slh,.int .u64 sll,.string sehd,.string senm,.int .i64 shi,.int .i64 slo,.slice sep sen sec,.slice stp stn stc,.slice sup sun suc]] W1 (CameR S J Jx k 1 W1))
  (h1:∀ W1,Kr S W W1→J (k+1) W1→CallsIn Fence.wide 0 Tryz.prog 78 #[yv l,.int .i64 a,.slice stp stn stc] W1 (CameR S J Jx (k+1) m W1))
  (h2:∀ W1,Kr S W W1→J (k+1+m) W1→CallsIn Fence.wide 0 Tryz.prog 78 #[yv l,.int .i64 a,.slice sup sun suc] W1 (CameR S J Jx (k+1+m) n W1)) :
  CallsIn Fence.wide 0 Tryz.prog 146 #[.int .i64 i,.agg #[.int .u8 skd,.string shd,.string snm,.int .u8 sop,.int .i64 slw,.int .u64 slh,.int .u64 sll,.string sehd,.string senm,.int .i64 shi,.int .i64 slo,.slice sep sen sec,.slice stp stn stc,.slice sup sun suc],.pointer (some ⟨c,0,none⟩),.pointer (some ⟨d,0,none⟩)] W (CameR S J Jx k (1+(m+n)) W):=by
 have hb':=Lib.hid hb
 have h1':=Lib.hid h1
 have h2':=Lib.hid h2
 have hc':=Lib.hid hc
 have hd':=Lib.hid hd
 have hy':=Lib.hid (fun o:Obj=>hy (W.alloc o) (lays_alloc hJ h0 o))
 have c0:=fun o:Obj=>hc (W.alloc o) (Kr.alloc S W o)
 have d0:=fun o:Obj=>hd (W.alloc o) (Kr.alloc S W o)
 clear hb h1 h2 hc hd hy h0 hJ
 refine callsIn_of_wp Tryz.func146 rfl trivial ?_ rfl
 simp only [Tryz.ntmps146,List.size_toArray,List.length_cons,List.length_nil,Nat.reduceAdd,Nat.reduceSub,Array.replicate_succ,Array.replicate_zero,List.push_toArray,List.append_toArray,List.nil_append,List.cons_append]
 obtain⟨fn,tmps,assign,body,hy1,hR⟩:=hy'.out (.cells #[.int .u8 skd,.string shd,.string snm,.int .u8 sop,.int .i64 slw,.int .u64 slh,.int .u64 sll,.string sehd,.string senm,.int .i64 shi,.int .i64 slo,.slice sep sen sec,.slice stp stn stc,.slice sup sun suc] 47)
 have hR':=Lib.hid hR
 clear hR hy'
 gi_wp2
 refine⟨rfl,(round_wide hR'.out).mono ?_⟩
 rintro e w1 (⟨rfl,hJ1,hk1⟩ | ⟨rfl,hx⟩)
 ·have hA1:=(Kr.alloc S W _).trans hk1
  have e4:=box_kr hb'.out _ _ hk1 12 _ rfl
  have c1:=hc'.out _ hA1
  have d1:=hd'.out _ hA1
  have q1:=Lib.hid (h1'.out w1 hA1 hJ1)
  have hk1':=Lib.hid hk1
  clear c0 d0 hy1 hk1 hA1 hJ1
  gi_wp2
  refine⟨trivial,rfl,CallsIn.mono q1.out ?_⟩
  rintro e w2 (⟨rfl,hJ2,hk2⟩ | ⟨rfl,hx⟩)
  ·have hB2:=hk1'.out.trans hk2
   have hA2:=(Kr.alloc S W _).trans hB2
   have e5:=box_kr hb'.out _ _ hB2 13 _ rfl
   have c2:=hc'.out _ hA2
   have d2:=hd'.out _ hA2
   have q2:=Lib.hid (h2'.out w2 hA2 hJ2)
   have hA2':=Lib.hid hA2
   clear c1 d1 e4 hk2 hB2 hA2 hJ2 q1
   gi_wp2
   refine⟨trivial,rfl,CallsIn.mono q2.out ?_⟩
   rintro e w3 (⟨rfl,hJ3,hk3⟩ | ⟨rfl,hx⟩)
   ·gi_wp2
    go_ret
    exact .inl ⟨rfl,by rw [show k+(1+(m+n))=k+1+m+n by omega];exact hJ3,hA2'.out.trans hk3⟩
   ·gi_wp2
    go_ret
    exact .inr ⟨rfl,hx⟩
  ·gi_wp2
   refine⟨trivial,?_⟩
   gi_wp2
   go_ret
   exact .inr ⟨rfl,hx⟩
 ·clear c0 d0 hy1
  gi_wp2
  refine⟨trivial,?_⟩
  gi_wp2
  refine⟨trivial,?_⟩
  gi_wp2
  go_ret
  exact .inr ⟨rfl,hx⟩
set_option maxRecDepth 100000 in
set_option maxHeartbeats 8000000 in
theorem tblock_ofR (L:Sl St) (ih:∀ x ∈ L.l,BlkAtR x.thnS∧BlkAtR x.elsS):BlkAtR L:=by
 intro l xs S J Jx hR a w hS hin hz k W hw hb hs h0
 have hlen:=len_le St.sz St.sz_pos L hz
 obtain⟨c,hc⟩:∃ c,W.heap.size=c:=⟨_,rfl⟩
 have hmain:∀ V,Kr S W V→OwnB S V c (yv l)→OwnB S V (c+1) (.int .i64 a)→c+1 < V.heap.size→J k V →
   CallsIn Fence.wide 0 Tryz.prog 145 #[L.v,.func (.func 146) #[] #[.pointer (some ⟨c,0,none⟩),.pointer (some ⟨c+1,0,none⟩)]] V (CameR S J Jx k (St.encs a L.l).length V):=by
  intro V hV hc1 hc2 hsz hJk
  rw [St.encs_len]
  have hbV:∀ b,S.f b→b < V.heap.size:=fun b h=>Nat.lt_of_lt_of_le (hb b h) hV.size
  have hsf:Sub xs k (flI (fun _ s=>St.enc a s) 0 L.l):=by rw [← St.encs_fl];exact hs
  refine eachr_StmtR St.cells shp_st (fun s=>(St.enc a s).length) 146 #[] #[.pointer (some ⟨c,0,none⟩),.pointer (some ⟨c+1,0,none⟩)] (St.In w) S J Jx hR.lays w hS L hin hlen (enters_of Tryz.func146 (by kernel_rfl) rfl) k V (hw.trans hV) hbV hJk ?_
  intro i x W1 hx hK hJi
  have hmem:x ∈ L.l:=List.mem_of_getElem? hx
  have hxz:x.sz≤1048576:=Nat.le_trans (le_sum_of St.sz L.l x hmem) hz
  have h1z:=St.sz_eq x
  have hxin:=hin.kids x hmem
  have sx:Sub xs (k+upI (fun s=>(St.enc a s).length) L.l i) (St.enc a x):=Sub.at (fun _ s=>St.enc a s) (fun s=>(St.enc a s).length) (fun _ _=>rfl) L.l k 0 i x hsf hx
  rw [St.enc_eq] at sx
  have hwV:Kr S w W1:=(hw.trans hV).trans hK
  have hbW:∀ b,S.f b→b < W1.heap.size:=fun b h=>Nat.lt_of_lt_of_le (hbV b h) hK.size
  have q:=tblock1_ofR l S J Jx hR.lays a (i:Int) x.kind x.head x.name x.e.op x.e.lit.w x.e.lit.h x.e.lit.l x.e.head x.e.name x.e.hi x.e.lo x.e.p x.e.args.length x.e.cap x.p x.thn.length x.cap x.q x.els.length x.cbp c (c+1) (k+upI (fun s=>(St.enc a s).length) L.l i) (St.encs a x.thn).length (St.encs a x.els).length W1 hbW hJi
   (fun W2 h=>(hK.trans h).cell _ _ hc1.no hc1.cell) (fun W2 h=>(hK.trans h).cell _ _ hc2.no hc2.cell)
   (fun W2 h=>hR.next _ (.st a x) W2 sx.head h)
   (fun W2 h hj=>(ih x hmem).1 l xs S J Jx hR a w hS (St.In.inThn hxin) (show (x.thn.map St.sz).sum≤_ by omega) _ W2 (hwV.trans h) (fun b hb=>Nat.lt_of_lt_of_le (hbW b hb) h.size) sx.tail.left hj)
   (fun W2 h hj=>(ih x hmem).2 l xs S J Jx hR a w hS (St.In.inEls hxin) (show (x.els.map St.sz).sum≤_ by omega) _ W2 (hwV.trans h) (fun b hb=>Nat.lt_of_lt_of_le (hbW b hb) h.size) sx.tail.right hj)
  rw [show (St.enc a x).length=1+((St.encs a x.thn).length+(St.encs a x.els).length) by rw [St.enc_eq];simp;omega]
  exact q
 have hmain':=Lib.hid hmain
 have h0':=Lib.hid h0
 have hR':=Lib.hid hR
 have hb':=Lib.hid hb
 have hc':=Lib.hid hc
 obtain⟨p,cap,ll⟩:=L
 simp only [Sl.v] at hmain' ⊢
 generalize ll.length=n1 at hmain' ⊢
 clear hmain h0 hR hb hc hin hz hs hw hS hlen ih
 refine callsIn_of_wp Tryz.func78 rfl trivial ?_ rfl
 simp only [Tryz.ntmps78,List.size_toArray,List.length_cons,List.length_nil,Nat.reduceAdd,Nat.reduceSub,Array.replicate_succ,Array.replicate_zero,List.push_toArray,List.append_toArray,List.nil_append,List.cons_append]
 gi_wp2
 have o1:=(own_new hb'.out W rfl (yv l) 133).up (by simp) (Kr.alloc S _ (.cells #[.int .i64 a] 3))
 have o2:=own_new (S:=S) (fun b h=>Nat.lt_of_lt_of_le (hb'.out b h) (by simp)) (W.alloc (.cells #[yv l] 133)) rfl (.int .i64 a) 3
 rw [World.size_alloc] at o2
 have hA:=(Kr.alloc S W (.cells #[yv l] 133)).trans (Kr.alloc S _ (.cells #[.int .i64 a] 3))
 obtain⟨b1,b2,bs⟩:=two_boxes W (yv l) (.int .i64 a) 133 3
 have e:=hc'.out
 refine⟨trivial,rfl,CallsIn.mono (by rw [e] at o1 o2 bs ⊢;exact hmain'.out _ hA o1 o2 (by rw [bs];omega) (lays_alloc hR'.out.lays (lays_alloc hR'.out.lays h0'.out _) _)) ?_⟩
 rintro r w' (⟨rfl,hJ,hk⟩ | ⟨rfl,hx⟩)
 ·gi_wp2
  go_ret
  exact .inl ⟨rfl,hJ,hA.trans hk⟩
 ·gi_wp2
  go_ret
  exact .inr ⟨rfl,hx⟩
theorem tblocks_atR:∀ s:St,BlkAtR s.thnS∧BlkAtR s.elsS:=fun s=>St.ind (Q:=fun s=>BlkAtR s.thnS∧BlkAtR s.elsS) (fun s h1 h2=>⟨tblock_ofR s.thnS fun x hx=>h1 x hx,tblock_ofR s.elsS fun x hx=>h2 x hx⟩) s
theorem blockT_inR (L:Sl St):BlkAtR L:=tblock_ofR L fun x _=>tblocks_atR x
open Go.Shelf
attribute [local go_sem] Oper.semAt_some
set_option maxRecDepth 100000 in
set_option maxHeartbeats 8000000 in
theorem meta_inR (l:Nat) (xs:List It) (S:Bx) (J Jx:Nat→World→Prop) (hR:RndR Tryz.prog l xs S J Jx) (a:Nat) (nm:ByteArray) (w0:Int) (c k:Nat) (W:World) (hs:xs[k]?=some (.num 3 a 0)) (hc:W.cell? ⟨c,0,none⟩=some (yv l)) (h0:J k W) :
  CallsIn Fence.wide 0 Tryz.prog 70 #[.int .i64 (a:Int),.agg #[.string nm,.int .i64 w0],.pointer (some ⟨c,0,none⟩)] W (CameR S J Jx k 1 W):=by
 have q1:=Lib.hid (fun o:Obj=>one_inR l 3 (a:Int) S J Jx k (W.alloc o) (hR.one hs (lays_alloc hR.lays h0 o)))
 have c0:=fun o:Obj=>cell_alloc hc o
 clear hR hs h0
 refine callsIn_of_wp Tryz.func70 rfl trivial ?_ rfl
 simp only [Tryz.ntmps70,List.size_toArray,List.length_cons,List.length_nil,Nat.reduceAdd,Nat.reduceSub,Array.replicate_succ,Array.replicate_zero,List.push_toArray,List.append_toArray,List.nil_append,List.cons_append]
 gi_wp2
 refine⟨trivial,rfl,CallsIn.mono (q1.out _) ?_⟩
 rintro e w' (⟨rfl,hJ2,hk2⟩ | ⟨rfl,hx⟩)
 ·gi_wp2
  go_ret
  exact .inl ⟨rfl,hJ2,(Kr.alloc S W _).trans hk2⟩
 ·gi_wp2
  go_ret
  exact .inr ⟨rfl,hx⟩
set_option maxRecDepth 100000 in
set_option maxHeartbeats 8000000 in
theorem emit_inR (l:Nat) (xs:List It) (S:Bx) (J Jx:Nat→World→Prop) (hR:RndR Tryz.prog l xs S J Jx) (a:Nat) (nm:ByteArray) (c k:Nat) (W:World) (hs:xs[k]?=some (.num 15 a 0)) (hc:W.cell? ⟨c,0,none⟩=some (yv l)) (h0:J k W) :
  CallsIn Fence.wide 0 Tryz.prog 80 #[.int .i64 (a:Int),.string nm,.pointer (some ⟨c,0,none⟩)] W (CameR S J Jx k 1 W):=by
 have q1:=Lib.hid (one_inR l 15 (a:Int) S J Jx k W (hR.one hs h0))
 clear hR hs h0
 refine callsIn_of_wp Tryz.func80 rfl trivial ?_ rfl
 simp only [Tryz.ntmps80,List.size_toArray,List.length_cons,List.length_nil,Nat.reduceAdd,Nat.reduceSub,Array.replicate_succ,Array.replicate_zero,List.push_toArray,List.append_toArray,List.nil_append,List.cons_append]
 gi_wp2
 refine⟨trivial,rfl,CallsIn.mono q1.out ?_⟩
 rintro e w' (⟨rfl,hJ2,hk2⟩ | ⟨rfl,hx⟩)
 ·gi_wp2
  go_ret
  exact .inl ⟨rfl,hJ2,hk2⟩
 ·gi_wp2
  go_ret
  exact .inr ⟨rfl,hx⟩
set_option maxRecDepth 100000 in
set_option maxHeartbeats 8000000 in
theorem items1_ofR (l:Nat) (S:Bx) (J Jx:Nat→World→Prop) (hJ:Lays J) (p0:Option Addr) (s0 c0:Nat) (p1:Option Addr) (s1 c1:Nat) (p2:Option Addr) (s2 c2:Nat) (p3:Option Addr) (s3 c3:Nat) (p4:Option Addr) (s4 c4:Nat) (p5:Option Addr) (s5 c5:Nat) (p6:Option Addr) (s6 c6:Nat) (n0 n1 n2 n3 n4 n5 n6:Nat) (k:Nat) (pb:Nat) (W:World) (hb:∀ b,S.f b→b < W.heap.size) (hpb:¬ S.s W pb) (hp:CellsAt W ⟨pb,0,none⟩ [.slice p0 s0 c0,.slice p1 s1 c1,.slice p2 s2 c2,.slice p3 s3 c3,.slice p4 s4 c4,.slice p5 s5 c5,.slice p6 s6 c6]) (h0:J k W)
  (q0:∀ V,Kr S W V→OwnB S V W.heap.size (yv l)→J (k) V→CallsIn Fence.wide 0 Tryz.prog 67 #[.slice p0 s0 c0,.func (.func 68) #[yv l] #[]] V (CameR S J Jx (k) n0 V))
  (q1:∀ V,Kr S W V→OwnB S V W.heap.size (yv l)→J (k+n0) V→CallsIn Fence.wide 0 Tryz.prog 69 #[.slice p1 s1 c1,.func (.func 70) #[] #[.pointer (some ⟨W.heap.size,0,none⟩)]] V (CameR S J Jx (k+n0) n1 V))
  (q2:∀ V,Kr S W V→OwnB S V W.heap.size (yv l)→J (k+n0+n1) V→CallsIn Fence.wide 0 Tryz.prog 72 #[.slice p2 s2 c2,.func (.func 73) #[yv l] #[]] V (CameR S J Jx (k+n0+n1) n2 V))
  (q3:∀ V,Kr S W V→OwnB S V W.heap.size (yv l)→J (k+n0+n1+n2) V→CallsIn Fence.wide 0 Tryz.prog 74 #[.slice p3 s3 c3,.func (.func 75) #[yv l] #[]] V (CameR S J Jx (k+n0+n1+n2) n3 V))
  (q4:∀ V,Kr S W V→OwnB S V W.heap.size (yv l)→J (k+n0+n1+n2+n3) V→CallsIn Fence.wide 0 Tryz.prog 76 #[.slice p4 s4 c4,.func (.func 77) #[yv l] #[]] V (CameR S J Jx (k+n0+n1+n2+n3) n4 V))
  (q5:∀ V,Kr S W V→OwnB S V W.heap.size (yv l)→J (k+n0+n1+n2+n3+n4) V→CallsIn Fence.wide 0 Tryz.prog 78 #[yv l,.int .i64 (-1),.slice p5 s5 c5] V (CameR S J Jx (k+n0+n1+n2+n3+n4) n5 V))
  (q6:∀ V,Kr S W V→OwnB S V W.heap.size (yv l)→J (k+n0+n1+n2+n3+n4+n5) V→CallsIn Fence.wide 0 Tryz.prog 79 #[.slice p6 s6 c6,.func (.func 80) #[] #[.pointer (some ⟨W.heap.size,0,none⟩)]] V (CameR S J Jx (k+n0+n1+n2+n3+n4+n5) n6 V)) :
  CallsIn Fence.wide 0 Tryz.prog 66 #[yv l,.pointer (some ⟨pb,0,none⟩)] W (fun e w'=>(∃ v,e=.returned v)∧((J (k+n0+n1+n2+n3+n4+n5+n6) w'∧Kr S W w')∨∃ i,Jx i w')):=by
 have q0':=Lib.hid q0
 have q1':=Lib.hid q1
 have q2':=Lib.hid q2
 have q3':=Lib.hid q3
 have q4':=Lib.hid q4
 have q5':=Lib.hid q5
 have q6':=Lib.hid q6
 have hb':=Lib.hid hb
 have h0':=Lib.hid (fun o:Obj=>lays_alloc hJ h0 o)
 have hP:∀ V,Kr S W V→∀ (j:Nat) (v:Value),[.slice p0 s0 c0,.slice p1 s1 c1,.slice p2 s2 c2,.slice p3 s3 c3,.slice p4 s4 c4,.slice p5 s5 c5,.slice p6 s6 c6][j]?=some v→V.cell? ⟨pb,j,none⟩=some v:=fun V h j v hj=>h.cell ⟨pb,j,none⟩ v hpb (by have:=hp j v hj;rw [show (⟨pb,0,none⟩:Addr).add j=⟨pb,j,none⟩ by simp [Addr.add];exact fun h=>h.symm] at this;exact this)
 have hP':=Lib.hid hP
 have f0:=fun o:Obj=>cell_alloc (hp.c0 _ rfl) o
 clear q0 q1 q2 q3 q4 q5 q6 hb h0 hp hpb hJ hP
 refine callsIn_of_wp Tryz.func66 rfl trivial ?_ rfl
 simp only [Tryz.ntmps66,List.size_toArray,List.length_cons,List.length_nil,Nat.reduceAdd,Nat.reduceSub,Array.replicate_succ,Array.replicate_zero,List.push_toArray,List.append_toArray,List.nil_append,List.cons_append]
 gi_wp2
 have g0:=Lib.hid (q0'.out _ (Kr.alloc S W (.cells #[yv l] 133)) (own_new hb'.out W rfl (yv l) 133) (h0'.out _))
 refine⟨trivial,rfl,CallsIn.mono g0.out ?_⟩
 rintro e w0 (⟨rfl,hJ0,hk0⟩ | ⟨rfl,hx⟩)
 ·have hA0:=hk0
  have hW0:=(Kr.alloc S W _).trans hA0
  have o0:=Lib.hid (box_own hb'.out _ _ hA0)
  have b0:=o0.out.cell
  have f1:=hP'.out _ hW0 1 _ rfl
  have g1:=Lib.hid (q1'.out _ hW0 o0.out hJ0)
  have hA0':=Lib.hid hA0
  clear g0 hk0 hA0 hJ0 hW0 f0
  gi_wp2
  refine⟨trivial,rfl,CallsIn.mono g1.out ?_⟩
  rintro e w1 (⟨rfl,hJ1,hk1⟩ | ⟨rfl,hx⟩)
  ·have hA1:=hA0'.out.trans hk1
   have hW1:=(Kr.alloc S W _).trans hA1
   have o1:=Lib.hid (box_own hb'.out _ _ hA1)
   have b1:=o1.out.cell
   have f2:=hP'.out _ hW1 2 _ rfl
   have g2:=Lib.hid (q2'.out _ hW1 o1.out hJ1)
   have hA1':=Lib.hid hA1
   clear g1 hk1 hA1 hJ1 hW1 f1 b0
   gi_wp2
   refine⟨trivial,rfl,CallsIn.mono g2.out ?_⟩
   rintro e w2 (⟨rfl,hJ2,hk2⟩ | ⟨rfl,hx⟩)
   ·have hA2:=hA1'.out.trans hk2
    have hW2:=(Kr.alloc S W _).trans hA2
    have o2:=Lib.hid (box_own hb'.out _ _ hA2)
    have b2:=o2.out.cell
    have f3:=hP'.out _ hW2 3 _ rfl
    have g3:=Lib.hid (q3'.out _ hW2 o2.out hJ2)
    have hA2':=Lib.hid hA2
    clear g2 hk2 hA2 hJ2 hW2 f2 b1
    gi_wp2
    refine⟨trivial,rfl,CallsIn.mono g3.out ?_⟩
    rintro e w3 (⟨rfl,hJ3,hk3⟩ | ⟨rfl,hx⟩)
    ·have hA3:=hA2'.out.trans hk3
     have hW3:=(Kr.alloc S W _).trans hA3
     have o3:=Lib.hid (box_own hb'.out _ _ hA3)
     have b3:=o3.out.cell
     have f4:=hP'.out _ hW3 4 _ rfl
     have g4:=Lib.hid (q4'.out _ hW3 o3.out hJ3)
     have hA3':=Lib.hid hA3
     clear g3 hk3 hA3 hJ3 hW3 f3 b2
     gi_wp2
     refine⟨trivial,rfl,CallsIn.mono g4.out ?_⟩
     rintro e w4 (⟨rfl,hJ4,hk4⟩ | ⟨rfl,hx⟩)
     ·have hA4:=hA3'.out.trans hk4
      have hW4:=(Kr.alloc S W _).trans hA4
      have o4:=Lib.hid (box_own hb'.out _ _ hA4)
      have b4:=o4.out.cell
      have f5:=hP'.out _ hW4 5 _ rfl
      have g5:=Lib.hid (q5'.out _ hW4 o4.out hJ4)
      have hA4':=Lib.hid hA4
      clear g4 hk4 hA4 hJ4 hW4 f4 b3
      gi_wp2
      refine⟨trivial,rfl,CallsIn.mono g5.out ?_⟩
      rintro e w5 (⟨rfl,hJ5,hk5⟩ | ⟨rfl,hx⟩)
      ·have hA5:=hA4'.out.trans hk5
       have hW5:=(Kr.alloc S W _).trans hA5
       have o5:=Lib.hid (box_own hb'.out _ _ hA5)
       have b5:=o5.out.cell
       have f6:=hP'.out _ hW5 6 _ rfl
       have g6:=Lib.hid (q6'.out _ hW5 o5.out hJ5)
       have hA5':=Lib.hid hA5
       clear g5 hk5 hA5 hJ5 hW5 f5 b4
       gi_wp2
       refine⟨trivial,rfl,CallsIn.mono g6.out ?_⟩
       rintro e w6 (⟨rfl,hJ6,hk6⟩ | ⟨rfl,hx⟩)
       ·have hA6:=hA5'.out.trans hk6
        have hW6:=(Kr.alloc S W _).trans hA6
        have hW':=Lib.hid hW6
        clear hA6 hk6 hW6
        gi_wp2
        go_end0
        exact⟨⟨_,rfl⟩,.inl ⟨hJ6,hW'.out⟩⟩
       ·gi_wp2
        go_end0
        exact⟨⟨_,rfl⟩,.inr hx⟩
      ·gi_wp2
       refine⟨trivial,?_⟩
       gi_wp2
       go_end0
       exact⟨⟨_,rfl⟩,.inr hx⟩
     ·gi_wp2
      refine⟨trivial,?_⟩
      gi_wp2
      refine⟨trivial,?_⟩
      gi_wp2
      go_end0
      exact⟨⟨_,rfl⟩,.inr hx⟩
    ·gi_wp2
     refine⟨trivial,?_⟩
     gi_wp2
     refine⟨trivial,?_⟩
     gi_wp2
     refine⟨trivial,?_⟩
     gi_wp2
     go_end0
     exact⟨⟨_,rfl⟩,.inr hx⟩
   ·gi_wp2
    refine⟨trivial,?_⟩
    gi_wp2
    refine⟨trivial,?_⟩
    gi_wp2
    refine⟨trivial,?_⟩
    gi_wp2
    refine⟨trivial,?_⟩
    gi_wp2
    go_end0
    exact⟨⟨_,rfl⟩,.inr hx⟩
  ·gi_wp2
   refine⟨trivial,?_⟩
   gi_wp2
   refine⟨trivial,?_⟩
   gi_wp2
   refine⟨trivial,?_⟩
   gi_wp2
   refine⟨trivial,?_⟩
   gi_wp2
   refine⟨trivial,?_⟩
   gi_wp2
   go_end0
   exact⟨⟨_,rfl⟩,.inr hx⟩
 ·gi_wp2
  refine⟨trivial,?_⟩
  gi_wp2
  refine⟨trivial,?_⟩
  gi_wp2
  refine⟨trivial,?_⟩
  gi_wp2
  refine⟨trivial,?_⟩
  gi_wp2
  refine⟨trivial,?_⟩
  gi_wp2
  refine⟨trivial,?_⟩
  gi_wp2
  go_end0
  exact⟨⟨_,rfl⟩,.inr hx⟩
theorem items1_inR (l:Nat) (p:Pr) (S:Bx) (J Jx:Nat→World→Prop) (hR:RndR Tryz.prog l (encP p) S J Jx) (w:World) (hS:S.over w.heap.size) (hin:p.In w) (hz:p.sz≤1048576) (pb:Nat) (W:World) (hw:Kr S w W) (hb:∀ b,S.f b→b < W.heap.size) (hpb:¬ S.s W pb) (hp:CellsAt W ⟨pb,0,none⟩ p.cells) (h0:J 0 W) :
  CallsIn Fence.wide 0 Tryz.prog 66 #[yv l,.pointer (some ⟨pb,0,none⟩)] W (fun e w'=>(∃ v,e=.returned v)∧((J (encP p).length w'∧Kr S W w')∨∃ i,Jx i w')):=by
 have hs:Sub (encP p) 0 (encP p):=fun j x h=>by rw [Nat.zero_add];exact h
 obtain⟨i0,i1,i2,i3,i4,i5,i6⟩:=hin
 have z:=hz
 unfold Pr.sz at z
 have hent:∀ V,Kr S W V→∀ b,S.f b→b < V.heap.size:=fun V h b q=>Nat.lt_of_lt_of_le (hb b q) h.size
 have s1:Sub (encP p) 0 (e1 p):=hs.left
 have r1:=hs.right
 have s2:=r1.left
 have r2:=r1.right
 have s3:=r2.left
 have r3:=r2.right
 have s4:=r3.left
 have r4:=r3.right
 have s5:=r4.left
 have r5:=r4.right
 have s6:=r5.left
 have s7:=r5.right
 have l1:(e1 p).length=(p.headers.l.map lenH).sum:=flI_len _ _ (fun a x=>encH_len a x) _ _
 have l2:(e2 p).length=(p.metas.l.map fun _=>1).sum:=flI_len (fun a (_:Fd)=>[It.num 3 a 0]) (fun _=>1) (fun _ _=>rfl) _ _
 have l3:(e3 p).length=(p.states.l.map lenS).sum:=flI_len _ _ (fun a x=>encS_len a x) _ _
 have l4:(e4 p).length=(p.actions.l.map lenA).sum:=flI_len _ _ (fun a x=>encA_len a x) _ _
 have l5:(e5 p).length=(p.tables.l.map lenT).sum:=flI_len _ _ (fun a x=>encT_len a x) _ _
 have l7:(e7 p).length=(p.emit.l.map fun _=>1).sum:=flI_len (fun a (_:ByteArray)=>[It.num 15 a 0]) (fun _=>1) (fun _ _=>rfl) _ _
 have hlen:(encP p).length=0+(e1 p).length+(e2 p).length+(e3 p).length+(e4 p).length+(e5 p).length+(e6 p).length+(e7 p).length:=by
  unfold encP
  simp only [List.length_append]
  omega
 rw [hlen]
 refine items1_ofR l S J Jx hR.lays p.headers.p p.headers.l.length p.headers.cap p.metas.p p.metas.l.length p.metas.cap p.states.p p.states.l.length p.states.cap p.actions.p p.actions.l.length p.actions.cap p.tables.p p.tables.l.length p.tables.cap p.control.p p.control.l.length p.control.cap p.emit.p p.emit.l.length p.emit.cap (e1 p).length (e2 p).length (e3 p).length (e4 p).length (e5 p).length (e6 p).length (e7 p).length 0 pb W hb hpb hp h0 ?_ ?_ ?_ ?_ ?_ ?_ ?_
 ·intro V hV _ hJ
  rw [l1]
  refine eachr_HeaderR Hr.cells shp_hr lenH _ #[yv l] #[] (Hr.In w) S J Jx hR.lays w hS p.headers i0 (len_le Hr.sz (fun x=>by unfold Hr.sz;omega) _ (by unfold Sl.size at *;omega)) (enters_of Tryz.func68 (by kernel_rfl) rfl) _ V (hw.trans hV) (hent V hV) hJ ?_
  intro i x W1 hx hK hJi
  have hm:x ∈ p.headers.l:=List.mem_of_getElem? hx
  have hl:x.fields.l.length≤1048576:=by
   have:=le_sum_of Hr.sz p.headers.l x hm
   have h2:=length_le_sum Fd.sz (fun y=>by unfold Fd.sz;omega) x.fields.l
   unfold Hr.sz Sl.size at *
   omega
  exact theader_inR l (encP p) S J Jx hR i x.name x.fields.p x.fields.l.length x.fields.cap hl _ (by have:=Sub.at _ _ (fun a y=>encH_len a y) p.headers.l 0 0 i x s1 hx;rw [Nat.zero_add i] at this;exact this) W1 (hent W1 (hV.trans hK)) hJi
 ·intro V hV hc hJ
  rw [l2]
  refine eachr_FieldR Fd.cells shp_fd (fun _=>1) _ #[] #[.pointer (some ⟨W.heap.size,0,none⟩)] (Fd.In w) S J Jx hR.lays w hS p.metas i1 (len_le Fd.sz (fun x=>by unfold Fd.sz;omega) _ (by unfold Sl.size at *;omega)) (enters_of Tryz.func70 (by kernel_rfl) rfl) _ V (hw.trans hV) (hent V hV) hJ ?_
  intro i x W1 hx hK hJi
  exact meta_inR l (encP p) S J Jx hR i x.name x.w W.heap.size _ W1 (by have:=Sub.at (fun a (_:Fd)=>[It.num 3 a 0]) (fun _=>1) (fun _ _=>rfl) p.metas.l _ 0 i x s2 hx;rw [Nat.zero_add i] at this;exact this.head) (hK.cell _ _ hc.no hc.cell) hJi
 ·intro V hV _ hJ
  rw [l3]
  refine eachr_StateR Sa.cells shp_sa lenS _ #[yv l] #[] (Sa.In w) S J Jx hR.lays w hS p.states i2 (len_le Sa.sz (fun x=>by unfold Sa.sz;omega) _ (by unfold Sl.size at *;omega)) (enters_of Tryz.func73 (by kernel_rfl) rfl) _ V (hw.trans hV) (hent V hV) hJ ?_
  intro i x W1 hx hK hJi
  have hm:x ∈ p.states.l:=List.mem_of_getElem? hx
  have q0:=le_sum_of Sa.sz p.states.l x hm
  have q1:=length_le_sum strSize (fun y=>by unfold strSize;omega) x.takes.l
  have q2:=length_le_sum Ca.sz (fun y=>by unfold Ca.sz;omega) x.cases.l
  exact tstate_inR l (encP p) S J Jx hR i x.name x.to x.takes.p x.keys.p x.cases.p x.takes.l.length x.takes.cap x.keys.l.length x.keys.cap x.cases.l.length x.cases.cap (by unfold Sa.sz Sl.size at *;omega) (by unfold Sa.sz Sl.size at *;omega) _ (by have:=Sub.at _ _ (fun a y=>encS_len a y) p.states.l _ 0 i x s3 hx;rw [Nat.zero_add i] at this;exact this) W1 (hent W1 (hV.trans hK)) hJi
 ·intro V hV _ hJ
  rw [l4]
  refine eachr_ActionR Ac.cells shp_ac lenA _ #[yv l] #[] (Ac.In w) S J Jx hR.lays w hS p.actions i3 (len_le Ac.sz (fun x=>by unfold Ac.sz;omega) _ (by unfold Sl.size at *;omega)) (enters_of Tryz.func75 (by kernel_rfl) rfl) _ V (hw.trans hV) (hent V hV) hJ ?_
  intro i x W1 hx hK hJi
  have hm:x ∈ p.actions.l:=List.mem_of_getElem? hx
  have q0:=le_sum_of Ac.sz p.actions.l x hm
  have q1:=length_le_sum Fd.sz (fun y=>by unfold Fd.sz;omega) x.params.l
  have q2:x.body.size St.sz≤1048576:=by unfold Ac.sz Sl.size at *;omega
  rw [show lenA x=x.params.l.length+(St.encs (i:Int) x.body.l).length+1 by unfold lenA;rw [St.encs_len2 (i:Int) 0]]
  exact taction_inR l (encP p) S J Jx hR i x.name x.params.p x.body.p x.params.l.length x.params.cap x.body.l.length x.body.cap (St.encs (i:Int) x.body.l) (by unfold Ac.sz Sl.size at *;omega) _ (by have:=Sub.at _ _ (fun a y=>encA_len a y) p.actions.l _ 0 i x s4 hx;rw [Nat.zero_add i] at this;exact this) W1 (hent W1 (hV.trans hK)) hJi
   (fun k' W2 h hs' hj=>blockT_inR x.body l (encP p) S J Jx hR (i:Int) w hS (i3.kids x hm).body q2 k' W2 (((hw.trans hV).trans hK).trans h) (hent W2 ((hV.trans hK).trans h)) hs' hj)
 ·intro V hV _ hJ
  rw [l5]
  refine eachr_TableR Ta.cells shp_ta lenT _ #[yv l] #[] (Ta.In w) S J Jx hR.lays w hS p.tables i4 (len_le Ta.sz (fun x=>by unfold Ta.sz;omega) _ (by unfold Sl.size at *;omega)) (enters_of Tryz.func77 (by kernel_rfl) rfl) _ V (hw.trans hV) (hent V hV) hJ ?_
  intro i x W1 hx hK hJi
  have hm:x ∈ p.tables.l:=List.mem_of_getElem? hx
  have q0:=le_sum_of Ta.sz p.tables.l x hm
  have q1:=length_le_sum Ke.sz (fun y=>by unfold Ke.sz;omega) x.keys.l
  have q2:=length_le_sum strSize (fun y=>by unfold strSize;omega) x.actions.l
  exact ttable_inR l (encP p) S J Jx hR i x.name x.dflt.name x.keys.p x.actions.p x.dflt.args.p x.keys.l.length x.keys.cap x.actions.l.length x.actions.cap x.dflt.args.l.length x.dflt.args.cap (by unfold Ta.sz Sl.size at *;omega) (by unfold Ta.sz Sl.size at *;omega) _ (by have:=Sub.at _ _ (fun a y=>encT_len a y) p.tables.l _ 0 i x s5 hx;rw [Nat.zero_add i] at this;exact this) W1 (hent W1 (hV.trans hK)) hJi
 ·intro V hV _ hJ
  exact blockT_inR p.control l (encP p) S J Jx hR (-1) w hS i5 (by unfold Sl.size at *;omega) _ V (hw.trans hV) (hent V hV) s6 hJ
 ·intro V hV hc hJ
  rw [l7]
  refine eachr_stringR (fun _=>1) _ #[] #[.pointer (some ⟨W.heap.size,0,none⟩)] strOk S J Jx hR.lays w hS p.emit i6 (len_le strSize (fun x=>by unfold strSize;omega) _ (by unfold Sl.size at *;omega)) (enters_of Tryz.func80 (by kernel_rfl) rfl) _ V (hw.trans hV) (hent V hV) hJ ?_
  intro i x W1 hx hK hJi
  exact emit_inR l (encP p) S J Jx hR i x W.heap.size _ W1 (by have:=Sub.at (fun a (_:ByteArray)=>[It.num 15 a 0]) (fun _=>1) (fun _ _=>rfl) p.emit.l _ 0 i x s7 hx;rw [Nat.zero_add i] at this;exact this.head) (hK.cell _ _ hc.no hc.cell) hJi
end Go.Proofs.YtobhijbncchpiaaGreat
