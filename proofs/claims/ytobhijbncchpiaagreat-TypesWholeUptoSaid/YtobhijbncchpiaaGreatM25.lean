/-
  WHAT IS PROVED HERE: a part of the proof (made narrower and merged by program; the parts: Zm Zn).
-/
import Derived.Test.YtobhijbncchpiaaGreatM24
namespace Go.Proofs.YtobhijbncchpiaaGreat
open Go.RowKit Go.Shelf
attribute [local go_sem] Oper.semAt_some
/-- How many items the first so many make. -/
def upI {α:Type} (m:α→Nat) (l:List α) (i:Nat):Nat:=((l.take i).map m).sum
theorem upI_zero {α:Type} (m:α→Nat) (l:List α):upI m l 0=0:=by simp [upI]
theorem upI_succ {α:Type} (m:α→Nat) (l:List α) (i:Nat) (x:α) (h:l[i]?=some x):upI m l (i+1)=upI m l i+m x:=sum_take_succ m l i x h
theorem upI_all {α:Type} (m:α→Nat) (l:List α) (i:Nat) (h:l.length=i):upI m l i=(l.map m).sum:=by unfold upI;rw [List.take_of_length_le (by omega)]
theorem lays_alloc {J:Nat→World→Prop} (h:Lays J) {k:Nat} {W:World} (hJ:J k W) (o:Obj):J k (W.alloc o):=by
 obtain⟨x,hx⟩:=plus_of_below ((Below.refl W.heap.size W).alloc (Nat.le_refl _) o)
 rw [hx]
 exact h k W x hJ
set_option maxRecDepth 100000 in
set_option maxHeartbeats 8000000 in
theorem eachr_Header {α:Type} (cells:α→List Value) (hC:∀ x,shp_Header (cells x)) (m:α→Nat) (g:FuncId) (first caps:Array Value) (K:α→Prop) (S:Nat→Prop) (J Jx:Nat→World→Prop) (hJ:Lays J) (w:World) (hS:∀ b,S b→w.heap.size≤b) (A:Sl α) (hA:A.In w 2 cells K) (hl:A.l.length≤1048576)
  (hent:∀ args w,(callFunc g args).run Tryz.prog w=.ok (.enter g args) w) (k0:Nat) (W:World) (hw:Kq S w W) (hb:∀ b,S b→b < W.heap.size) (h0:J k0 W)
  (hf:∀ (i:Nat) (x:α) (W1:World),A.l[i]?=some x→Kq S W W1→J (k0+upI m A.l i) W1→CallsIn Fence.wide 0 Tryz.prog g (first++(#[.int .i64 (i:Int),.agg (cells x).toArray]++caps)) W1 (Came S J Jx (k0+upI m A.l i) (m x) W1)) :
  CallsIn Fence.wide 0 Tryz.prog 67 #[A.v,.func (.func g) first caps] W (Came S J Jx k0 ((A.l.map m).sum) W):=by
 have hr:=hA.row
 obtain⟨p,cap,l⟩:=A
 simp only [Sl.v] at hl hf hr ⊢
 obtain⟨n,hn⟩:∃ n,l.length=n:=⟨_,rfl⟩
 rw [hn] at hl ⊢
 have hall:=upI_all m l n hn
 have hf':=Lib.hid hf
 have hn':=Lib.hid hn
 have hl':=Lib.hid hl
 have hr':=Lib.hid hr
 have hS':=Lib.hid hS
 have hb':=Lib.hid hb
 have hJ':=Lib.hid hJ
 have hall':=Lib.hid hall
 have h0':J (k0+upI m l 0) W:=by rw [upI_zero];exact h0
 have hC':=Lib.hid hC
 clear hf hn hl hr hA hS hb hJ hall h0 hC
 refine callsIn_of_wp Tryz.func67 rfl trivial ?_ rfl
 simp only [Tryz.ntmps67,List.size_toArray,List.length_cons,List.length_nil,Nat.reduceAdd,Nat.reduceSub,Array.replicate_succ,Array.replicate_zero,List.push_toArray,List.append_toArray,List.nil_append,List.cons_append]
 gi_wp2
 gi_loopw [5,6,9] (fun _ _ iv wr=>∃ i:Nat,i≤n∧iv=.int .i64 (i:Int)∧J (k0+upI m l i) wr∧Kq S W wr) (fun _ _ iv _=>n - (intOf iv).toNat)
 case atStart=>exact⟨0,Nat.zero_le _,rfl,h0',Kq.refl _ _⟩
 case round =>
  obtain⟨i,hi,rfl,hJi,hK⟩:=hrel
  by_cases hlt:i < n
  ·obtain⟨a,ha⟩:∃ s,l[i]?=some s:=⟨l[i]'(by rw [hn'.out];exact hlt),List.getElem?_eq_getElem _⟩
   obtain⟨pa,rfl,hcV⟩:=hr'.out i a ha
   have hc:=kq_cells (hw.trans hK) hS'.out hcV
   have hup:=upI_succ m l i a ha
   have a6:=Lib.hid (wr_succ i n hlt hl'.out)
   obtain⟨c0,c1p,c1n,c1c,ea⟩:=hC'.out a
   have d0:=hc.c0 _ (by rw [ea];rfl)
   have d1:=hc.cs 0 _ (by rw [ea];rfl)
   have hJi':=Lib.hid hJi
   have q1:=Lib.hid (fun o:Obj=>hf'.out i a (wr.alloc o) ha (hK.trans (Kq.alloc _ _ o)) (lays_alloc hJ'.out hJi o))
   simp only [ea] at q1
   clear ea
   have ha':=Lib.hid ha
   clear hcV hc ha hJi
   gi_wp2
   refine⟨trivial,?_⟩
   gi_wp2
   refine⟨rfl,CallsIn.mono (calls_wide (q1.out _)) ?_⟩
   rintro e w' (⟨rfl,hJ2,hk2⟩ | ⟨rfl,hx⟩)
   ·gi_wp2
    go_roundw
    case rel=>exact⟨i+1,hlt,congrArg (Value.int .i64) a6.out,by rw [hup,← Nat.add_assoc];exact hJ2,(hK.trans (Kq.alloc _ _ _)).trans hk2⟩
    case measure=>exact step_less i n hlt a6.out
   ·gi_wp2
    go_ret
    exact .inr ⟨rfl,hx⟩
  ·obtain rfl:i=n:=by omega
   have hJi2:=Lib.hid hJi
   clear hlt hi hJi
   gi_wp2
   go_ret
   exact .inl ⟨rfl,by rw [← hall'.out];exact hJi2.out,hK⟩
set_option maxRecDepth 100000 in
set_option maxHeartbeats 8000000 in
theorem eachr_Field {α:Type} (cells:α→List Value) (hC:∀ x,shp_Field (cells x)) (m:α→Nat) (g:FuncId) (first caps:Array Value) (K:α→Prop) (S:Nat→Prop) (J Jx:Nat→World→Prop) (hJ:Lays J) (w:World) (hS:∀ b,S b→w.heap.size≤b) (A:Sl α) (hA:A.In w 2 cells K) (hl:A.l.length≤1048576)
  (hent:∀ args w,(callFunc g args).run Tryz.prog w=.ok (.enter g args) w) (k0:Nat) (W:World) (hw:Kq S w W) (hb:∀ b,S b→b < W.heap.size) (h0:J k0 W)
  (hf:∀ (i:Nat) (x:α) (W1:World),A.l[i]?=some x→Kq S W W1→J (k0+upI m A.l i) W1→CallsIn Fence.wide 0 Tryz.prog g (first++(#[.int .i64 (i:Int),.agg (cells x).toArray]++caps)) W1 (Came S J Jx (k0+upI m A.l i) (m x) W1)) :
  CallsIn Fence.wide 0 Tryz.prog 69 #[A.v,.func (.func g) first caps] W (Came S J Jx k0 ((A.l.map m).sum) W):=by
 have hr:=hA.row
 obtain⟨p,cap,l⟩:=A
 simp only [Sl.v] at hl hf hr ⊢
 obtain⟨n,hn⟩:∃ n,l.length=n:=⟨_,rfl⟩
 rw [hn] at hl ⊢
 have hall:=upI_all m l n hn
 have hf':=Lib.hid hf
 have hn':=Lib.hid hn
 have hl':=Lib.hid hl
 have hr':=Lib.hid hr
 have hS':=Lib.hid hS
 have hb':=Lib.hid hb
 have hJ':=Lib.hid hJ
 have hall':=Lib.hid hall
 have h0':J (k0+upI m l 0) W:=by rw [upI_zero];exact h0
 have hC':=Lib.hid hC
 clear hf hn hl hr hA hS hb hJ hall h0 hC
 refine callsIn_of_wp Tryz.func69 rfl trivial ?_ rfl
 simp only [Tryz.ntmps69,List.size_toArray,List.length_cons,List.length_nil,Nat.reduceAdd,Nat.reduceSub,Array.replicate_succ,Array.replicate_zero,List.push_toArray,List.append_toArray,List.nil_append,List.cons_append]
 gi_wp2
 gi_loopw [5,6,9] (fun _ _ iv wr=>∃ i:Nat,i≤n∧iv=.int .i64 (i:Int)∧J (k0+upI m l i) wr∧Kq S W wr) (fun _ _ iv _=>n - (intOf iv).toNat)
 case atStart=>exact⟨0,Nat.zero_le _,rfl,h0',Kq.refl _ _⟩
 case round =>
  obtain⟨i,hi,rfl,hJi,hK⟩:=hrel
  by_cases hlt:i < n
  ·obtain⟨a,ha⟩:∃ s,l[i]?=some s:=⟨l[i]'(by rw [hn'.out];exact hlt),List.getElem?_eq_getElem _⟩
   obtain⟨pa,rfl,hcV⟩:=hr'.out i a ha
   have hc:=kq_cells (hw.trans hK) hS'.out hcV
   have hup:=upI_succ m l i a ha
   have a6:=Lib.hid (wr_succ i n hlt hl'.out)
   obtain⟨c0,c1,ea⟩:=hC'.out a
   have d0:=hc.c0 _ (by rw [ea];rfl)
   have d1:=hc.cs 0 _ (by rw [ea];rfl)
   have hJi':=Lib.hid hJi
   have q1:=Lib.hid (fun o:Obj=>hf'.out i a (wr.alloc o) ha (hK.trans (Kq.alloc _ _ o)) (lays_alloc hJ'.out hJi o))
   simp only [ea] at q1
   clear ea
   have ha':=Lib.hid ha
   clear hcV hc ha hJi
   gi_wp2
   refine⟨trivial,?_⟩
   gi_wp2
   refine⟨rfl,CallsIn.mono (calls_wide (q1.out _)) ?_⟩
   rintro e w' (⟨rfl,hJ2,hk2⟩ | ⟨rfl,hx⟩)
   ·gi_wp2
    go_roundw
    case rel=>exact⟨i+1,hlt,congrArg (Value.int .i64) a6.out,by rw [hup,← Nat.add_assoc];exact hJ2,(hK.trans (Kq.alloc _ _ _)).trans hk2⟩
    case measure=>exact step_less i n hlt a6.out
   ·gi_wp2
    go_ret
    exact .inr ⟨rfl,hx⟩
  ·obtain rfl:i=n:=by omega
   have hJi2:=Lib.hid hJi
   clear hlt hi hJi
   gi_wp2
   go_ret
   exact .inl ⟨rfl,by rw [← hall'.out];exact hJi2.out,hK⟩
set_option maxRecDepth 100000 in
set_option maxHeartbeats 8000000 in
theorem eachr_State {α:Type} (cells:α→List Value) (hC:∀ x,shp_State (cells x)) (m:α→Nat) (g:FuncId) (first caps:Array Value) (K:α→Prop) (S:Nat→Prop) (J Jx:Nat→World→Prop) (hJ:Lays J) (w:World) (hS:∀ b,S b→w.heap.size≤b) (A:Sl α) (hA:A.In w 5 cells K) (hl:A.l.length≤1048576)
  (hent:∀ args w,(callFunc g args).run Tryz.prog w=.ok (.enter g args) w) (k0:Nat) (W:World) (hw:Kq S w W) (hb:∀ b,S b→b < W.heap.size) (h0:J k0 W)
  (hf:∀ (i:Nat) (x:α) (W1:World),A.l[i]?=some x→Kq S W W1→J (k0+upI m A.l i) W1→CallsIn Fence.wide 0 Tryz.prog g (first++(#[.int .i64 (i:Int),.agg (cells x).toArray]++caps)) W1 (Came S J Jx (k0+upI m A.l i) (m x) W1)) :
  CallsIn Fence.wide 0 Tryz.prog 72 #[A.v,.func (.func g) first caps] W (Came S J Jx k0 ((A.l.map m).sum) W):=by
 have hr:=hA.row
 obtain⟨p,cap,l⟩:=A
 simp only [Sl.v] at hl hf hr ⊢
 obtain⟨n,hn⟩:∃ n,l.length=n:=⟨_,rfl⟩
 rw [hn] at hl ⊢
 have hall:=upI_all m l n hn
 have hf':=Lib.hid hf
 have hn':=Lib.hid hn
 have hl':=Lib.hid hl
 have hr':=Lib.hid hr
 have hS':=Lib.hid hS
 have hb':=Lib.hid hb
 have hJ':=Lib.hid hJ
 have hall':=Lib.hid hall
 have h0':J (k0+upI m l 0) W:=by rw [upI_zero];exact h0
 have hC':=Lib.hid hC
 clear hf hn hl hr hA hS hb hJ hall h0 hC
 refine callsIn_of_wp Tryz.func72 rfl trivial ?_ rfl
 simp only [Tryz.ntmps72,List.size_toArray,List.length_cons,List.length_nil,Nat.reduceAdd,Nat.reduceSub,Array.replicate_succ,Array.replicate_zero,List.push_toArray,List.append_toArray,List.nil_append,List.cons_append]
 gi_wp2
 gi_loopw [5,6,9] (fun _ _ iv wr=>∃ i:Nat,i≤n∧iv=.int .i64 (i:Int)∧J (k0+upI m l i) wr∧Kq S W wr) (fun _ _ iv _=>n - (intOf iv).toNat)
 case atStart=>exact⟨0,Nat.zero_le _,rfl,h0',Kq.refl _ _⟩
 case round =>
  obtain⟨i,hi,rfl,hJi,hK⟩:=hrel
  by_cases hlt:i < n
  ·obtain⟨a,ha⟩:∃ s,l[i]?=some s:=⟨l[i]'(by rw [hn'.out];exact hlt),List.getElem?_eq_getElem _⟩
   obtain⟨pa,rfl,hcV⟩:=hr'.out i a ha
   have hc:=kq_cells (hw.trans hK) hS'.out hcV
   have hup:=upI_succ m l i a ha
   have a6:=Lib.hid (wr_succ i n hlt hl'.out)
   obtain⟨c0,c1p,c1n,c1c,c2,c3p,c3n,c3c,c4p,c4n,c4c,ea⟩:=hC'.out a
   have d0:=hc.c0 _ (by rw [ea];rfl)
   have d1:=hc.cs 0 _ (by rw [ea];rfl)
   have d2:=hc.cs 1 _ (by rw [ea];rfl)
   have d3:=hc.cs 2 _ (by rw [ea];rfl)
   have d4:=hc.cs 3 _ (by rw [ea];rfl)
   have hJi':=Lib.hid hJi
   have q1:=Lib.hid (fun o:Obj=>hf'.out i a (wr.alloc o) ha (hK.trans (Kq.alloc _ _ o)) (lays_alloc hJ'.out hJi o))
   simp only [ea] at q1
   clear ea
   have ha':=Lib.hid ha
   clear hcV hc ha hJi
   gi_wp2
   refine⟨trivial,?_⟩
   gi_wp2
   refine⟨rfl,CallsIn.mono (calls_wide (q1.out _)) ?_⟩
   rintro e w' (⟨rfl,hJ2,hk2⟩ | ⟨rfl,hx⟩)
   ·gi_wp2
    go_roundw
    case rel=>exact⟨i+1,hlt,congrArg (Value.int .i64) a6.out,by rw [hup,← Nat.add_assoc];exact hJ2,(hK.trans (Kq.alloc _ _ _)).trans hk2⟩
    case measure=>exact step_less i n hlt a6.out
   ·gi_wp2
    go_ret
    exact .inr ⟨rfl,hx⟩
  ·obtain rfl:i=n:=by omega
   have hJi2:=Lib.hid hJi
   clear hlt hi hJi
   gi_wp2
   go_ret
   exact .inl ⟨rfl,by rw [← hall'.out];exact hJi2.out,hK⟩
set_option maxRecDepth 100000 in
set_option maxHeartbeats 8000000 in
theorem eachr_Action {α:Type} (cells:α→List Value) (hC:∀ x,shp_Action (cells x)) (m:α→Nat) (g:FuncId) (first caps:Array Value) (K:α→Prop) (S:Nat→Prop) (J Jx:Nat→World→Prop) (hJ:Lays J) (w:World) (hS:∀ b,S b→w.heap.size≤b) (A:Sl α) (hA:A.In w 3 cells K) (hl:A.l.length≤1048576)
  (hent:∀ args w,(callFunc g args).run Tryz.prog w=.ok (.enter g args) w) (k0:Nat) (W:World) (hw:Kq S w W) (hb:∀ b,S b→b < W.heap.size) (h0:J k0 W)
  (hf:∀ (i:Nat) (x:α) (W1:World),A.l[i]?=some x→Kq S W W1→J (k0+upI m A.l i) W1→CallsIn Fence.wide 0 Tryz.prog g (first++(#[.int .i64 (i:Int),.agg (cells x).toArray]++caps)) W1 (Came S J Jx (k0+upI m A.l i) (m x) W1)) :
  CallsIn Fence.wide 0 Tryz.prog 74 #[A.v,.func (.func g) first caps] W (Came S J Jx k0 ((A.l.map m).sum) W):=by
 have hr:=hA.row
 obtain⟨p,cap,l⟩:=A
 simp only [Sl.v] at hl hf hr ⊢
 obtain⟨n,hn⟩:∃ n,l.length=n:=⟨_,rfl⟩
 rw [hn] at hl ⊢
 have hall:=upI_all m l n hn
 have hf':=Lib.hid hf
 have hn':=Lib.hid hn
 have hl':=Lib.hid hl
 have hr':=Lib.hid hr
 have hS':=Lib.hid hS
 have hb':=Lib.hid hb
 have hJ':=Lib.hid hJ
 have hall':=Lib.hid hall
 have h0':J (k0+upI m l 0) W:=by rw [upI_zero];exact h0
 have hC':=Lib.hid hC
 clear hf hn hl hr hA hS hb hJ hall h0 hC
 refine callsIn_of_wp Tryz.func74 rfl trivial ?_ rfl
 simp only [Tryz.ntmps74,List.size_toArray,List.length_cons,List.length_nil,Nat.reduceAdd,Nat.reduceSub,Array.replicate_succ,Array.replicate_zero,List.push_toArray,List.append_toArray,List.nil_append,List.cons_append]
 gi_wp2
 gi_loopw [5,6,9] (fun _ _ iv wr=>∃ i:Nat,i≤n∧iv=.int .i64 (i:Int)∧J (k0+upI m l i) wr∧Kq S W wr) (fun _ _ iv _=>n - (intOf iv).toNat)
 case atStart=>exact⟨0,Nat.zero_le _,rfl,h0',Kq.refl _ _⟩
 case round =>
  obtain⟨i,hi,rfl,hJi,hK⟩:=hrel
  by_cases hlt:i < n
  ·obtain⟨a,ha⟩:∃ s,l[i]?=some s:=⟨l[i]'(by rw [hn'.out];exact hlt),List.getElem?_eq_getElem _⟩
   obtain⟨pa,rfl,hcV⟩:=hr'.out i a ha
   have hc:=kq_cells (hw.trans hK) hS'.out hcV
   have hup:=upI_succ m l i a ha
   have a6:=Lib.hid (wr_succ i n hlt hl'.out)
   obtain⟨c0,c1p,c1n,c1c,c2p,c2n,c2c,ea⟩:=hC'.out a
   have d0:=hc.c0 _ (by rw [ea];rfl)
   have d1:=hc.cs 0 _ (by rw [ea];rfl)
   have d2:=hc.cs 1 _ (by rw [ea];rfl)
   have hJi':=Lib.hid hJi
   have q1:=Lib.hid (fun o:Obj=>hf'.out i a (wr.alloc o) ha (hK.trans (Kq.alloc _ _ o)) (lays_alloc hJ'.out hJi o))
   simp only [ea] at q1
   clear ea
   have ha':=Lib.hid ha
   clear hcV hc ha hJi
   gi_wp2
   refine⟨trivial,?_⟩
   gi_wp2
   refine⟨rfl,CallsIn.mono (calls_wide (q1.out _)) ?_⟩
   rintro e w' (⟨rfl,hJ2,hk2⟩ | ⟨rfl,hx⟩)
   ·gi_wp2
    go_roundw
    case rel=>exact⟨i+1,hlt,congrArg (Value.int .i64) a6.out,by rw [hup,← Nat.add_assoc];exact hJ2,(hK.trans (Kq.alloc _ _ _)).trans hk2⟩
    case measure=>exact step_less i n hlt a6.out
   ·gi_wp2
    go_ret
    exact .inr ⟨rfl,hx⟩
  ·obtain rfl:i=n:=by omega
   have hJi2:=Lib.hid hJi
   clear hlt hi hJi
   gi_wp2
   go_ret
   exact .inl ⟨rfl,by rw [← hall'.out];exact hJi2.out,hK⟩
set_option maxRecDepth 100000 in
set_option maxHeartbeats 8000000 in
theorem eachr_Table {α:Type} (cells:α→List Value) (hC:∀ x,shp_Table (cells x)) (m:α→Nat) (g:FuncId) (first caps:Array Value) (K:α→Prop) (S:Nat→Prop) (J Jx:Nat→World→Prop) (hJ:Lays J) (w:World) (hS:∀ b,S b→w.heap.size≤b) (A:Sl α) (hA:A.In w 5 cells K) (hl:A.l.length≤1048576)
  (hent:∀ args w,(callFunc g args).run Tryz.prog w=.ok (.enter g args) w) (k0:Nat) (W:World) (hw:Kq S w W) (hb:∀ b,S b→b < W.heap.size) (h0:J k0 W)
  (hf:∀ (i:Nat) (x:α) (W1:World),A.l[i]?=some x→Kq S W W1→J (k0+upI m A.l i) W1→CallsIn Fence.wide 0 Tryz.prog g (first++(#[.int .i64 (i:Int),.agg (cells x).toArray]++caps)) W1 (Came S J Jx (k0+upI m A.l i) (m x) W1)) :
  CallsIn Fence.wide 0 Tryz.prog 76 #[A.v,.func (.func g) first caps] W (Came S J Jx k0 ((A.l.map m).sum) W):=by
 have hr:=hA.row
 obtain⟨p,cap,l⟩:=A
 simp only [Sl.v] at hl hf hr ⊢
 obtain⟨n,hn⟩:∃ n,l.length=n:=⟨_,rfl⟩
 rw [hn] at hl ⊢
 have hall:=upI_all m l n hn
 have hf':=Lib.hid hf
 have hn':=Lib.hid hn
 have hl':=Lib.hid hl
 have hr':=Lib.hid hr
 have hS':=Lib.hid hS
 have hb':=Lib.hid hb
 have hJ':=Lib.hid hJ
 have hall':=Lib.hid hall
 have h0':J (k0+upI m l 0) W:=by rw [upI_zero];exact h0
 have hC':=Lib.hid hC
 clear hf hn hl hr hA hS hb hJ hall h0 hC
 refine callsIn_of_wp Tryz.func76 rfl trivial ?_ rfl
 simp only [Tryz.ntmps76,List.size_toArray,List.length_cons,List.length_nil,Nat.reduceAdd,Nat.reduceSub,Array.replicate_succ,Array.replicate_zero,List.push_toArray,List.append_toArray,List.nil_append,List.cons_append]
 gi_wp2
 gi_loopw [5,6,9] (fun _ _ iv wr=>∃ i:Nat,i≤n∧iv=.int .i64 (i:Int)∧J (k0+upI m l i) wr∧Kq S W wr) (fun _ _ iv _=>n - (intOf iv).toNat)
 case atStart=>exact⟨0,Nat.zero_le _,rfl,h0',Kq.refl _ _⟩
 case round =>
  obtain⟨i,hi,rfl,hJi,hK⟩:=hrel
  by_cases hlt:i < n
  ·obtain⟨a,ha⟩:∃ s,l[i]?=some s:=⟨l[i]'(by rw [hn'.out];exact hlt),List.getElem?_eq_getElem _⟩
   obtain⟨pa,rfl,hcV⟩:=hr'.out i a ha
   have hc:=kq_cells (hw.trans hK) hS'.out hcV
   have hup:=upI_succ m l i a ha
   have a6:=Lib.hid (wr_succ i n hlt hl'.out)
   obtain⟨c0,c1p,c1n,c1c,c2p,c2n,c2c,c3,c4p,c4n,c4c,ea⟩:=hC'.out a
   have d0:=hc.c0 _ (by rw [ea];rfl)
   have d1:=hc.cs 0 _ (by rw [ea];rfl)
   have d2:=hc.cs 1 _ (by rw [ea];rfl)
   have d3:=hc.cs 2 _ (by rw [ea];rfl)
   have d4:=hc.cs 3 _ (by rw [ea];rfl)
   have hJi':=Lib.hid hJi
   have q1:=Lib.hid (fun o:Obj=>hf'.out i a (wr.alloc o) ha (hK.trans (Kq.alloc _ _ o)) (lays_alloc hJ'.out hJi o))
   simp only [ea] at q1
   clear ea
   have ha':=Lib.hid ha
   clear hcV hc ha hJi
   gi_wp2
   refine⟨trivial,?_⟩
   gi_wp2
   refine⟨rfl,CallsIn.mono (calls_wide (q1.out _)) ?_⟩
   rintro e w' (⟨rfl,hJ2,hk2⟩ | ⟨rfl,hx⟩)
   ·gi_wp2
    go_roundw
    case rel=>exact⟨i+1,hlt,congrArg (Value.int .i64) a6.out,by rw [hup,← Nat.add_assoc];exact hJ2,(hK.trans (Kq.alloc _ _ _)).trans hk2⟩
    case measure=>exact step_less i n hlt a6.out
   ·gi_wp2
    go_ret
    exact .inr ⟨rfl,hx⟩
  ·obtain rfl:i=n:=by omega
   have hJi2:=Lib.hid hJi
   clear hlt hi hJi
   gi_wp2
   go_ret
   exact .inl ⟨rfl,by rw [← hall'.out];exact hJi2.out,hK⟩
set_option maxRecDepth 100000 in
set_option maxHeartbeats 8000000 in
theorem eachr_Stmt {α:Type} (cells:α→List Value) (hC:∀ x,shp_Stmt (cells x)) (m:α→Nat) (g:FuncId) (first caps:Array Value) (K:α→Prop) (S:Nat→Prop) (J Jx:Nat→World→Prop) (hJ:Lays J) (w:World) (hS:∀ b,S b→w.heap.size≤b) (A:Sl α) (hA:A.In w 14 cells K) (hl:A.l.length≤1048576)
  (hent:∀ args w,(callFunc g args).run Tryz.prog w=.ok (.enter g args) w) (k0:Nat) (W:World) (hw:Kq S w W) (hb:∀ b,S b→b < W.heap.size) (h0:J k0 W)
  (hf:∀ (i:Nat) (x:α) (W1:World),A.l[i]?=some x→Kq S W W1→J (k0+upI m A.l i) W1→CallsIn Fence.wide 0 Tryz.prog g (first++(#[.int .i64 (i:Int),.agg (cells x).toArray]++caps)) W1 (Came S J Jx (k0+upI m A.l i) (m x) W1)) :
  CallsIn Fence.wide 0 Tryz.prog 145 #[A.v,.func (.func g) first caps] W (Came S J Jx k0 ((A.l.map m).sum) W):=by
 have hr:=hA.row
 obtain⟨p,cap,l⟩:=A
 simp only [Sl.v] at hl hf hr ⊢
 obtain⟨n,hn⟩:∃ n,l.length=n:=⟨_,rfl⟩
 rw [hn] at hl ⊢
 have hall:=upI_all m l n hn
 have hf':=Lib.hid hf
 have hn':=Lib.hid hn
 have hl':=Lib.hid hl
 have hr':=Lib.hid hr
 have hS':=Lib.hid hS
 have hb':=Lib.hid hb
 have hJ':=Lib.hid hJ
 have hall':=Lib.hid hall
 have h0':J (k0+upI m l 0) W:=by rw [upI_zero];exact h0
 have hC':=Lib.hid hC
 clear hf hn hl hr hA hS hb hJ hall h0 hC
 refine callsIn_of_wp Tryz.func145 rfl trivial ?_ rfl
 simp only [Tryz.ntmps145,List.size_toArray,List.length_cons,List.length_nil,Nat.reduceAdd,Nat.reduceSub,Array.replicate_succ,Array.replicate_zero,List.push_toArray,List.append_toArray,List.nil_append,List.cons_append]
 gi_wp2
 gi_loopw [5,6,9] (fun _ _ iv wr=>∃ i:Nat,i≤n∧iv=.int .i64 (i:Int)∧J (k0+upI m l i) wr∧Kq S W wr) (fun _ _ iv _=>n - (intOf iv).toNat)
 case atStart=>exact⟨0,Nat.zero_le _,rfl,h0',Kq.refl _ _⟩
 case round =>
  obtain⟨i,hi,rfl,hJi,hK⟩:=hrel
  by_cases hlt:i < n
  ·obtain⟨a,ha⟩:∃ s,l[i]?=some s:=⟨l[i]'(by rw [hn'.out];exact hlt),List.getElem?_eq_getElem _⟩
   obtain⟨pa,rfl,hcV⟩:=hr'.out i a ha
   have hc:=kq_cells (hw.trans hK) hS'.out hcV
   have hup:=upI_succ m l i a ha
   have a6:=Lib.hid (wr_succ i n hlt hl'.out)
   obtain⟨c0,c1,c2,c3,c4,c5,c6,c7,c8,c9,c10,c11p,c11n,c11c,c12p,c12n,c12c,c13p,c13n,c13c,ea⟩:=hC'.out a
   have d0:=hc.c0 _ (by rw [ea];rfl)
   have d1:=hc.cs 0 _ (by rw [ea];rfl)
   have d2:=hc.cs 1 _ (by rw [ea];rfl)
   have d3:=hc.cs 2 _ (by rw [ea];rfl)
   have d4:=hc.cs 3 _ (by rw [ea];rfl)
   have d5:=hc.cs 4 _ (by rw [ea];rfl)
   have d6:=hc.cs 5 _ (by rw [ea];rfl)
   have d7:=hc.cs 6 _ (by rw [ea];rfl)
   have d8:=hc.cs 7 _ (by rw [ea];rfl)
   have d9:=hc.cs 8 _ (by rw [ea];rfl)
   have d10:=hc.cs 9 _ (by rw [ea];rfl)
   have d11:=hc.cs 10 _ (by rw [ea];rfl)
   have d12:=hc.cs 11 _ (by rw [ea];rfl)
   have d13:=hc.cs 12 _ (by rw [ea];rfl)
   have hJi':=Lib.hid hJi
   have q1:=Lib.hid (fun o:Obj=>hf'.out i a (wr.alloc o) ha (hK.trans (Kq.alloc _ _ o)) (lays_alloc hJ'.out hJi o))
   simp only [ea] at q1
   clear ea
   have ha':=Lib.hid ha
   clear hcV hc ha hJi
   gi_wp2
   refine⟨trivial,?_⟩
   gi_wp2
   refine⟨rfl,CallsIn.mono (calls_wide (q1.out _)) ?_⟩
   rintro e w' (⟨rfl,hJ2,hk2⟩ | ⟨rfl,hx⟩)
   ·gi_wp2
    go_roundw
    case rel=>exact⟨i+1,hlt,congrArg (Value.int .i64) a6.out,by rw [hup,← Nat.add_assoc];exact hJ2,(hK.trans (Kq.alloc _ _ _)).trans hk2⟩
    case measure=>exact step_less i n hlt a6.out
   ·gi_wp2
    go_ret
    exact .inr ⟨rfl,hx⟩
  ·obtain rfl:i=n:=by omega
   have hJi2:=Lib.hid hJi
   clear hlt hi hJi
   gi_wp2
   go_ret
   exact .inl ⟨rfl,by rw [← hall'.out];exact hJi2.out,hK⟩
set_option maxRecDepth 100000 in
set_option maxHeartbeats 8000000 in
theorem eachr_string (m:ByteArray→Nat) (g:FuncId) (first caps:Array Value) (K:ByteArray→Prop) (S:Nat→Prop) (J Jx:Nat→World→Prop) (hJ:Lays J) (w:World) (hS:∀ b,S b→w.heap.size≤b) (A:Sl ByteArray) (hA:A.In w 1 strCells K) (hl:A.l.length≤1048576)
  (hent:∀ args w,(callFunc g args).run Tryz.prog w=.ok (.enter g args) w) (k0:Nat) (W:World) (hw:Kq S w W) (hb:∀ b,S b→b < W.heap.size) (h0:J k0 W)
  (hf:∀ (i:Nat) (x:ByteArray) (W1:World),A.l[i]?=some x→Kq S W W1→J (k0+upI m A.l i) W1→CallsIn Fence.wide 0 Tryz.prog g (first++(#[.int .i64 (i:Int),.string x]++caps)) W1 (Came S J Jx (k0+upI m A.l i) (m x) W1)) :
  CallsIn Fence.wide 0 Tryz.prog 79 #[A.v,.func (.func g) first caps] W (Came S J Jx k0 ((A.l.map m).sum) W):=by
 have hr:=hA.row
 obtain⟨p,cap,l⟩:=A
 simp only [Sl.v] at hl hf hr ⊢
 obtain⟨n,hn⟩:∃ n,l.length=n:=⟨_,rfl⟩
 rw [hn] at hl ⊢
 have hall:=upI_all m l n hn
 have hf':=Lib.hid hf
 have hn':=Lib.hid hn
 have hl':=Lib.hid hl
 have hr':=Lib.hid hr
 have hS':=Lib.hid hS
 have hb':=Lib.hid hb
 have hJ':=Lib.hid hJ
 have hall':=Lib.hid hall
 have h0':J (k0+upI m l 0) W:=by rw [upI_zero];exact h0
 clear hf hn hl hr hA hS hb hJ hall h0
 refine callsIn_of_wp Tryz.func79 rfl trivial ?_ rfl
 simp only [Tryz.ntmps79,List.size_toArray,List.length_cons,List.length_nil,Nat.reduceAdd,Nat.reduceSub,Array.replicate_succ,Array.replicate_zero,List.push_toArray,List.append_toArray,List.nil_append,List.cons_append]
 gi_wp2
 gi_loopw [5,6,9] (fun _ _ iv wr=>∃ i:Nat,i≤n∧iv=.int .i64 (i:Int)∧J (k0+upI m l i) wr∧Kq S W wr) (fun _ _ iv _=>n - (intOf iv).toNat)
 case atStart=>exact⟨0,Nat.zero_le _,rfl,h0',Kq.refl _ _⟩
 case round =>
  obtain⟨i,hi,rfl,hJi,hK⟩:=hrel
  by_cases hlt:i < n
  ·obtain⟨a,ha⟩:∃ s,l[i]?=some s:=⟨l[i]'(by rw [hn'.out];exact hlt),List.getElem?_eq_getElem _⟩
   obtain⟨pa,rfl,hcV⟩:=hr'.out i a ha
   have hc:=kq_cells (hw.trans hK) hS'.out hcV
   have hup:=upI_succ m l i a ha
   have a6:=Lib.hid (wr_succ i n hlt hl'.out)
   have d0:=hc.c0 _ rfl
   simp only [Nat.mul_one] at d0
   have hJi':=Lib.hid hJi
   have q1:=Lib.hid (hf'.out i a wr ha hK hJi)
   have ha':=Lib.hid ha
   clear hcV hc ha hJi
   gi_wp2
   refine⟨trivial,?_⟩
   gi_wp2
   refine⟨rfl,CallsIn.mono (calls_wide q1.out) ?_⟩
   rintro e w' (⟨rfl,hJ2,hk2⟩ | ⟨rfl,hx⟩)
   ·gi_wp2
    go_roundw
    case rel=>exact⟨i+1,hlt,congrArg (Value.int .i64) a6.out,by rw [hup,← Nat.add_assoc];exact hJ2,hK.trans hk2⟩
    case measure=>exact step_less i n hlt a6.out
   ·gi_wp2
    go_ret
    exact .inr ⟨rfl,hx⟩
  ·obtain rfl:i=n:=by omega
   have hJi2:=Lib.hid hJi
   clear hlt hi hJi
   gi_wp2
   go_ret
   exact .inl ⟨rfl,by rw [← hall'.out];exact hJi2.out,hK⟩
open Go.Shelf
attribute [local go_sem] Oper.semAt_some
/-- An item: of a kind, with two numbers; or a statement. -/
inductive It where
 | num (kind:Int) (a b:Nat)
 | st (a:Int) (s:St)
def It.v:It→Value
 | .num kind a b=>itV kind (a:Int) (b:Int)
 | .st a s=>.agg #[.int .u8 10,.int .i64 a,.int .i64 0,.int .u8 s.kind,.string s.head,.string s.name,.int .u8 s.e.op,.int .i64 s.e.lit.w,.int .u64 s.e.lit.h,.int .u64 s.e.lit.l,.string s.e.head,.string s.e.name,.int .i64 s.e.hi,.int .i64 s.e.lo,.slice s.e.p s.e.args.length s.e.cap,.slice s.p s.thn.length s.cap,.slice s.q s.els.length s.cbp]
/-- So many parts of a kind, of one thing. -/
def ptI (kind:Int) (a n:Nat):List It:=(List.range n).map (fun j=>.num kind a j)
theorem ptI_len (kind:Int) (a n:Nat):(ptI kind a n).length=n:=by simp [ptI]
theorem ptI_at (kind:Int) (a n j:Nat) (h:j < n):(ptI kind a n)[j]?=some (.num kind a j):=by simp [ptI,h]
/-- They stand in the list, from the k-th on. -/
def Sub (xs:List It) (k:Nat) (ys:List It):Prop:=∀ j x,ys[j]?=some x→xs[k+j]?=some x
theorem Sub.head {xs:List It} {k:Nat} {y:It} {ys:List It} (h:Sub xs k (y :: ys)):xs[k]?=some y:=h 0 y rfl
theorem Sub.tail {xs:List It} {k:Nat} {y:It} {ys:List It} (h:Sub xs k (y :: ys)):Sub xs (k+1) ys:=fun j x hj=>by
 have:=h (j+1) x (by simpa using hj)
 rwa [show k+1+j=k+(j+1) by omega]
theorem Sub.left {xs:List It} {k:Nat} {a b:List It} (h:Sub xs k (a++b)):Sub xs k a:=fun j x hj=>h j x (by
 rw [List.getElem?_append_left (by exact (List.getElem?_eq_some_iff.1 hj).1)];exact hj)
theorem Sub.right {xs:List It} {k:Nat} {a b:List It} (h:Sub xs k (a++b)):Sub xs (k+a.length) b:=fun j x hj=>by
 have:=h (a.length+j) x (by rw [List.getElem?_append_right (by omega)];simpa using hj)
 rwa [show k+a.length+j=k+(a.length+j) by omega]
/-- The items of things in a row. -/
def flI {α:Type} (f:Nat→α→List It):Nat→List α→List It
 | _,[]=>[]
 | i,x :: l=>f i x++flI f (i+1) l
theorem flI_len {α:Type} (f:Nat→α→List It) (m:α→Nat) (hm:∀ i x,(f i x).length=m x):∀ (l:List α) (b:Nat),(flI f b l).length=(l.map m).sum
 | [],_=>rfl
 | x :: l,b=>by simp [flI,hm,flI_len f m hm l]
theorem Sub.at {α:Type} {xs:List It} (f:Nat→α→List It) (m:α→Nat) (hm:∀ i x,(f i x).length=m x):∀ (l:List α) (k b i:Nat) (x:α),Sub xs k (flI f b l)→l[i]?=some x→Sub xs (k+upI m l i) (f (b+i) x)
 | [],_,_,i,x,_,h=>by simp at h
 | y :: l,k,b,0,x,hs,h=>by
  obtain rfl:y=x:=by simpa using h
  rw [upI_zero]
  exact hs.left
 | y :: l,k,b,i+1,x,hs,h=>by
  have q:=Sub.at f m hm l (k+(f b y).length) (b+1) i x hs.right (by simpa using h)
  rw [show b+1+i=b+(i+1) by omega] at q
  rw [show upI m (y :: l) (i+1)=m y+upI m l i by simp [upI],← Nat.add_assoc,← hm b y]
  exact q
def encH (a n:Nat):List It:=.num 1 a 0 :: ptI 2 a n
def encS (a n m:Nat):List It:=.num 4 a 0 :: (ptI 5 a n++(.num 6 a 0 :: ptI 7 a m))
def encT (a n m:Nat):List It:=.num 11 a 0 :: (ptI 12 a n++(ptI 13 a m++[.num 14 a 0]))
/-- What a round does when it is asked of the list's next item. -/
structure Rnd (P:Program) (l:Nat) (xs:List It) (S:Nat→Prop) (J Jx:Nat→World→Prop):Prop where
 next:Next P l It.v xs S J Jx
 lays:Lays J
theorem Rnd.parts {P:Program} {l:Nat} {xs:List It} {S:Nat→Prop} {J Jx:Nat→World→Prop} (h:Rnd P l xs S J Jx) {k:Nat} {kind:Int} {a n:Nat} (hs:Sub xs k (ptI kind a n)):∀ j W1,j < n→J (k+j) W1→YieldAt Fence.wide 0 P l #[itV kind a (j:Int)] W1 (Came S J Jx (k+j) 1 W1):=fun j W1 hj hJ=>h.next (k+j) (.num kind a j) W1 (hs j _ (ptI_at kind a n j hj)) hJ
theorem Rnd.one {P:Program} {l:Nat} {xs:List It} {S:Nat→Prop} {J Jx:Nat→World→Prop} (h:Rnd P l xs S J Jx) {k:Nat} {kind:Int} {a:Nat} (hs:xs[k]?=some (.num kind a 0)) {W:World} (hJ:J k W):YieldAt Fence.wide 0 P l #[itV kind a 0] W (Came S J Jx k 1 W):=h.next k (.num kind a 0) W hs hJ
theorem box_kq {S:Nat→Prop} {V W:World} (hb:∀ b,S b→b < V.heap.size) (c:Array Value) (t:TypeId) (hk:Kq S (V.alloc (.cells c t)) W) (o:Nat) (v:Value) (h:c[o]?=some v):W.cell? ⟨V.heap.size,o,none⟩=some v :=
 hk.cell _ _ (fun hs=>Nat.lt_irrefl _ (hb _ hs)) ((cell_new V c t _ o rfl).trans h)
set_option maxRecDepth 100000 in
set_option maxHeartbeats 8000000 in
theorem theader_in (l:Nat) (xs:List It) (S:Nat→Prop) (J Jx:Nat→World→Prop) (hR:Rnd Tryz.prog l xs S J Jx) (a:Nat) (nm:ByteArray) (p:Option Addr) (n c:Nat) (hn:n≤1048576) (k:Nat) (hs:Sub xs k (encH a n)) (W:World) (hb:∀ b,S b→b < W.heap.size) (h0:J k W) :
  CallsIn Fence.wide 0 Tryz.prog 68 #[yv l,.int .i64 (a:Int),.agg #[.string nm,.slice p n c]] W (Came S J Jx k (n+1) W):=by
 have hR':=Lib.hid hR
 have hn':=Lib.hid hn
 have hs':=Lib.hid hs
 have hb':=Lib.hid hb
 have h0':=Lib.hid h0
 have q1:=Lib.hid (fun o:Obj=>one_in l 1 (a:Int) S J Jx k (W.alloc o) (hR.one hs.head (lays_alloc hR.lays h0 o)))
 clear hR hn hs hb h0
 refine callsIn_of_wp Tryz.func68 rfl trivial ?_ rfl
 simp only [Tryz.ntmps68,List.size_toArray,List.length_cons,List.length_nil,Nat.reduceAdd,Nat.reduceSub,Array.replicate_succ,Array.replicate_zero,List.push_toArray,List.append_toArray,List.nil_append,List.cons_append]
 gi_wp2
 refine⟨trivial,rfl,CallsIn.mono (q1.out _) ?_⟩
 rintro e w' (⟨rfl,hJ2,hk2⟩ | ⟨rfl,hx⟩)
 ·have d1:=box_kq hb'.out _ _ hk2 1 _ rfl
  have q2:=Lib.hid (parts_in l 2 (a:Int) n hn'.out S J Jx (k+1) w' (hR'.out.parts hs'.out.tail) hJ2)
  have hk2':=Lib.hid hk2
  clear q1 hk2
  gi_wp2
  refine⟨trivial,rfl,CallsIn.mono (q2.out) ?_⟩
  rintro e w2 (⟨rfl,hJ3,hk3⟩ | ⟨rfl,hx⟩)
  ·gi_wp2
   go_ret
   exact .inl ⟨rfl,by rw [Nat.add_comm n 1,← Nat.add_assoc];exact hJ3,((Kq.alloc S W _).trans hk2'.out).trans hk3⟩
  ·gi_wp2
   go_ret
   exact .inr ⟨rfl,hx⟩
 ·gi_wp2
  refine⟨trivial,?_⟩
  gi_wp2
  go_ret
  exact .inr ⟨rfl,hx⟩
-- the chains,by gen/zn.py
set_option maxRecDepth 100000 in
set_option maxHeartbeats 8000000 in
theorem tstate_in (l:Nat) (xs:List It) (S:Nat→Prop) (J Jx:Nat→World→Prop) (hR:Rnd Tryz.prog l xs S J Jx) (a:Nat) (nm t:ByteArray) (p pk pc:Option Addr) (n c nk ck m cm:Nat) (hn:n≤1048576) (hm:m≤1048576) (k:Nat) (hs:Sub xs k (encS a n m)) (W:World) (hb:∀ b,S b→b < W.heap.size) (h0:J k W) :
  CallsIn Fence.wide 0 Tryz.prog 73 #[yv l,.int .i64 (a:Int),.agg #[.string nm,.slice p n c,.string t,.slice pk nk ck,.slice pc m cm]] W (Came S J Jx k (n+m+2) W):=by
 have hR':=Lib.hid hR
 have hs':=Lib.hid hs
 have hb':=Lib.hid hb
 have hn':=Lib.hid hn
 have hm':=Lib.hid hm
 have t1:=hs.tail.right
 rw [ptI_len] at t1
 have t1':=Lib.hid t1
 clear t1 hn hm
 have q1:=Lib.hid (fun o:Obj=>one_in l 4 (a:Int) S J Jx k (W.alloc o) (hR.one hs.head (lays_alloc hR.lays h0 o)))
 clear hR hs hb h0
 refine callsIn_of_wp Tryz.func73 rfl trivial ?_ rfl
 simp only [Tryz.ntmps73,List.size_toArray,List.length_cons,List.length_nil,Nat.reduceAdd,Nat.reduceSub,Array.replicate_succ,Array.replicate_zero,List.push_toArray,List.append_toArray,List.nil_append,List.cons_append]
 gi_wp2
 refine⟨trivial,rfl,CallsIn.mono (q1.out _) ?_⟩
 rintro e w1 (⟨rfl,hJ1,hk1⟩ | ⟨rfl,hx⟩)
 ·have hA1:=hk1
  have d1:=box_kq hb'.out _ _ hA1 1 _ rfl
  have q2:=Lib.hid (parts_in l 5 (a:Int) n hn'.out S J Jx (k+1) w1 (hR'.out.parts hs'.out.tail.left) hJ1)
  have hA1':=Lib.hid hA1
  clear q1 hk1 hA1 hJ1
  gi_wp2
  refine⟨trivial,rfl,CallsIn.mono (q2.out) ?_⟩
  rintro e w2 (⟨rfl,hJ2,hk2⟩ | ⟨rfl,hx⟩)
  ·have hA2:=hA1'.out.trans hk2
   have q3:=Lib.hid (one_in l 6 (a:Int) S J Jx (k+1+n) w2 (hR'.out.one t1'.out.head hJ2))
   have hA2':=Lib.hid hA2
   clear q2 hk2 hA2 hJ2
   gi_wp2
   refine⟨trivial,rfl,CallsIn.mono (q3.out) ?_⟩
   rintro e w3 (⟨rfl,hJ3,hk3⟩ | ⟨rfl,hx⟩)
   ·have hA3:=hA2'.out.trans hk3
    have d4:=box_kq hb'.out _ _ hA3 4 _ rfl
    have q4:=Lib.hid (parts_in l 7 (a:Int) m hm'.out S J Jx (k+1+n+1) w3 (hR'.out.parts t1'.out.tail) hJ3)
    have hA3':=Lib.hid hA3
    clear q3 hk3 hA3 hJ3
    gi_wp2
    refine⟨trivial,rfl,CallsIn.mono (q4.out) ?_⟩
    rintro e w4 (⟨rfl,hJ4,hk4⟩ | ⟨rfl,hx⟩)
    ·have hA4:=hA3'.out.trans hk4
     gi_wp2
     go_ret
     exact .inl ⟨rfl,by rw [show k+(n+m+2)=k+1+n+1+m by omega];exact hJ4,(Kq.alloc S W _).trans hA4⟩
    ·gi_wp2
     go_ret
     exact .inr ⟨rfl,hx⟩
   ·gi_wp2
    refine⟨trivial,?_⟩
    gi_wp2
    go_ret
    exact .inr ⟨rfl,hx⟩
  ·gi_wp2
   refine⟨trivial,?_⟩
   gi_wp2
   refine⟨trivial,?_⟩
   gi_wp2
   go_ret
   exact .inr ⟨rfl,hx⟩
 ·gi_wp2
  refine⟨trivial,?_⟩
  gi_wp2
  refine⟨trivial,?_⟩
  gi_wp2
  refine⟨trivial,?_⟩
  gi_wp2
  go_ret
  exact .inr ⟨rfl,hx⟩
set_option maxRecDepth 100000 in
set_option maxHeartbeats 8000000 in
theorem ttable_in (l:Nat) (xs:List It) (S:Nat→Prop) (J Jx:Nat→World→Prop) (hR:Rnd Tryz.prog l xs S J Jx) (a:Nat) (nm dn:ByteArray) (p pk pc:Option Addr) (n c m cm dl dc:Nat) (hn:n≤1048576) (hm:m≤1048576) (k:Nat) (hs:Sub xs k (encT a n m)) (W:World) (hb:∀ b,S b→b < W.heap.size) (h0:J k W) :
  CallsIn Fence.wide 0 Tryz.prog 77 #[yv l,.int .i64 (a:Int),.agg #[.string nm,.slice p n c,.slice pk m cm,.string dn,.slice pc dl dc]] W (Came S J Jx k (n+m+2) W):=by
 have hR':=Lib.hid hR
 have hs':=Lib.hid hs
 have hb':=Lib.hid hb
 have hn':=Lib.hid hn
 have hm':=Lib.hid hm
 have t1:=hs.tail.right
 rw [ptI_len] at t1
 have t2:=t1.right
 rw [ptI_len] at t2
 have t1':=Lib.hid t1
 have t2':=Lib.hid t2
 clear t1 t2 hn hm
 have q1:=Lib.hid (fun o:Obj=>one_in l 11 (a:Int) S J Jx k (W.alloc o) (hR.one hs.head (lays_alloc hR.lays h0 o)))
 clear hR hs hb h0
 refine callsIn_of_wp Tryz.func77 rfl trivial ?_ rfl
 simp only [Tryz.ntmps77,List.size_toArray,List.length_cons,List.length_nil,Nat.reduceAdd,Nat.reduceSub,Array.replicate_succ,Array.replicate_zero,List.push_toArray,List.append_toArray,List.nil_append,List.cons_append]
 gi_wp2
 refine⟨trivial,rfl,CallsIn.mono (q1.out _) ?_⟩
 rintro e w1 (⟨rfl,hJ1,hk1⟩ | ⟨rfl,hx⟩)
 ·have hA1:=hk1
  have d1:=box_kq hb'.out _ _ hA1 1 _ rfl
  have q2:=Lib.hid (parts_in l 12 (a:Int) n hn'.out S J Jx (k+1) w1 (hR'.out.parts hs'.out.tail.left) hJ1)
  have hA1':=Lib.hid hA1
  clear q1 hk1 hA1 hJ1
  gi_wp2
  refine⟨trivial,rfl,CallsIn.mono (q2.out) ?_⟩
  rintro e w2 (⟨rfl,hJ2,hk2⟩ | ⟨rfl,hx⟩)
  ·have hA2:=hA1'.out.trans hk2
   have d2:=box_kq hb'.out _ _ hA2 2 _ rfl
   have q3:=Lib.hid (parts_in l 13 (a:Int) m hm'.out S J Jx (k+1+n) w2 (hR'.out.parts t1'.out.left) hJ2)
   have hA2':=Lib.hid hA2
   clear q2 hk2 hA2 hJ2
   gi_wp2
   refine⟨trivial,rfl,CallsIn.mono (q3.out) ?_⟩
   rintro e w3 (⟨rfl,hJ3,hk3⟩ | ⟨rfl,hx⟩)
   ·have hA3:=hA2'.out.trans hk3
    have q4:=Lib.hid (one_in l 14 (a:Int) S J Jx (k+1+n+m) w3 (hR'.out.one t2'.out.head hJ3))
    have hA3':=Lib.hid hA3
    clear q3 hk3 hA3 hJ3
    gi_wp2
    refine⟨trivial,rfl,CallsIn.mono (q4.out) ?_⟩
    rintro e w4 (⟨rfl,hJ4,hk4⟩ | ⟨rfl,hx⟩)
    ·have hA4:=hA3'.out.trans hk4
     gi_wp2
     go_ret
     exact .inl ⟨rfl,by rw [show k+(n+m+2)=k+1+n+m+1 by omega];exact hJ4,(Kq.alloc S W _).trans hA4⟩
    ·gi_wp2
     go_ret
     exact .inr ⟨rfl,hx⟩
   ·gi_wp2
    refine⟨trivial,?_⟩
    gi_wp2
    go_ret
    exact .inr ⟨rfl,hx⟩
  ·gi_wp2
   refine⟨trivial,?_⟩
   gi_wp2
   refine⟨trivial,?_⟩
   gi_wp2
   go_ret
   exact .inr ⟨rfl,hx⟩
 ·gi_wp2
  refine⟨trivial,?_⟩
  gi_wp2
  refine⟨trivial,?_⟩
  gi_wp2
  refine⟨trivial,?_⟩
  gi_wp2
  go_ret
  exact .inr ⟨rfl,hx⟩
set_option maxRecDepth 100000 in
set_option maxHeartbeats 8000000 in
theorem taction_in (l:Nat) (xs:List It) (S:Nat→Prop) (J Jx:Nat→World→Prop) (hR:Rnd Tryz.prog l xs S J Jx) (a:Nat) (nm:ByteArray) (p pk:Option Addr) (n c m cm:Nat) (ys:List It) (hn:n≤1048576) (k:Nat) (hs:Sub xs k (.num 8 a 0 :: (ptI 9 a n++ys))) (W:World) (hb:∀ b,S b→b < W.heap.size) (h0:J k W)
  (hbl:∀ (k':Nat) (W1:World),Kq S W W1→Sub xs k' ys→J k' W1→CallsIn Fence.wide 0 Tryz.prog 78 #[yv l,.int .i64 (a:Int),.slice pk m cm] W1 (Came S J Jx k' ys.length W1)) :
  CallsIn Fence.wide 0 Tryz.prog 75 #[yv l,.int .i64 (a:Int),.agg #[.string nm,.slice p n c,.slice pk m cm]] W (Came S J Jx k (n+ys.length+1) W):=by
 have hR':=Lib.hid hR
 have hs':=Lib.hid hs
 have hb':=Lib.hid hb
 have hn':=Lib.hid hn
 have t1:=hs.tail.right
 rw [ptI_len] at t1
 have t1':=Lib.hid t1
 have hbl':=Lib.hid hbl
 clear t1 hn hbl
 have q1:=Lib.hid (fun o:Obj=>one_in l 8 (a:Int) S J Jx k (W.alloc o) (hR.one hs.head (lays_alloc hR.lays h0 o)))
 clear hR hs hb h0
 refine callsIn_of_wp Tryz.func75 rfl trivial ?_ rfl
 simp only [Tryz.ntmps75,List.size_toArray,List.length_cons,List.length_nil,Nat.reduceAdd,Nat.reduceSub,Array.replicate_succ,Array.replicate_zero,List.push_toArray,List.append_toArray,List.nil_append,List.cons_append]
 gi_wp2
 refine⟨trivial,rfl,CallsIn.mono (q1.out _) ?_⟩
 rintro e w1 (⟨rfl,hJ1,hk1⟩ | ⟨rfl,hx⟩)
 ·have hA1:=hk1
  have d1:=box_kq hb'.out _ _ hA1 1 _ rfl
  have q2:=Lib.hid (parts_in l 9 (a:Int) n hn'.out S J Jx (k+1) w1 (hR'.out.parts hs'.out.tail.left) hJ1)
  have hA1':=Lib.hid hA1
  clear q1 hk1 hA1 hJ1
  gi_wp2
  refine⟨trivial,rfl,CallsIn.mono (q2.out) ?_⟩
  rintro e w2 (⟨rfl,hJ2,hk2⟩ | ⟨rfl,hx⟩)
  ·have hA2:=hA1'.out.trans hk2
   have d2:=box_kq hb'.out _ _ hA2 2 _ rfl
   have q3:=Lib.hid (hbl'.out (k+1+n) w2 ((Kq.alloc S W _).trans hA2) t1'.out hJ2)
   have hA2':=Lib.hid hA2
   clear q2 hk2 hA2 hJ2
   gi_wp2
   refine⟨trivial,rfl,CallsIn.mono (q3.out) ?_⟩
   rintro e w3 (⟨rfl,hJ3,hk3⟩ | ⟨rfl,hx⟩)
   ·have hA3:=hA2'.out.trans hk3
    gi_wp2
    go_ret
    exact .inl ⟨rfl,by rw [show k+(n+ys.length+1)=k+1+n+ys.length by omega];exact hJ3,(Kq.alloc S W _).trans hA3⟩
   ·gi_wp2
    go_ret
    exact .inr ⟨rfl,hx⟩
  ·gi_wp2
   refine⟨trivial,?_⟩
   gi_wp2
   go_ret
   exact .inr ⟨rfl,hx⟩
 ·gi_wp2
  refine⟨trivial,?_⟩
  gi_wp2
  refine⟨trivial,?_⟩
  gi_wp2
  go_ret
  exact .inr ⟨rfl,hx⟩
end Go.Proofs.YtobhijbncchpiaaGreat
