/-
  WHAT IS PROVED HERE: a part of the proof (made narrower and merged by program; the parts: Zm).
-/
import Derived.Test.YtlmhldcebllckaaGreatRows
import Derived.Test.YtlmhldcebllckaaGreatM10
namespace Go.Proofs.YtlmhldcebllckaaGreat
open Go.RowKit Go.Shelf
attribute [local go_sem] Oper.semAt_some
/-- How many items the first so many make. -/
def upI {α:Type} (m:α → Nat) (l:List α) (i:Nat):Nat:=((l.take i).map m).sum
theorem upI_zero {α:Type} (m:α → Nat) (l:List α):upI m l 0 = 0:=by simp [upI]
theorem upI_succ {α:Type} (m:α → Nat) (l:List α) (i:Nat) (x:α) (h:l[i]? = some x):upI m l (i + 1) = upI m l i + m x:=sum_take_succ m l i x h
theorem upI_all {α:Type} (m:α → Nat) (l:List α) (i:Nat) (h:l.length = i):upI m l i = (l.map m).sum:=by unfold upI;rw [List.take_of_length_le (by omega)]
theorem lays_alloc {J:Nat → World → Prop} (h:Lays J) {k:Nat} {W:World} (hJ:J k W) (o:Obj):J k (W.alloc o):=by
 obtain ⟨x,hx⟩:=plus_of_below ((Below.refl W.heap.size W).alloc (Nat.le_refl _) o)
 rw [hx]
 exact h k W x hJ
set_option maxRecDepth 100000 in
set_option maxHeartbeats 8000000 in
theorem eachr_Header {α:Type} (cells:α → List Value) (hC:∀ x,shp_Header (cells x)) (m:α → Nat) (g:FuncId) (first caps:Array Value) (K:α → Prop) (S:Nat → Prop) (J Jx:Nat → World → Prop) (hJ:Lays J) (w:World) (hS:∀ b,S b → w.heap.size ≤ b) (A:Sl α) (hA:A.In w 2 cells K) (hl:A.l.length ≤ 1048576)
  (hent:∀ args w,(callFunc g args).run Tryz.prog w = .ok (.enter g args) w) (k0:Nat) (W:World) (hw:Kq S w W) (hb:∀ b,S b → b < W.heap.size) (h0:J k0 W)
  (hf:∀ (i:Nat) (x:α) (W1:World),A.l[i]? = some x → Kq S W W1 → J (k0 + upI m A.l i) W1 → CallsIn Fence.wide 0 Tryz.prog g (first++(#[.int .i64 (i:Int),.agg (cells x).toArray]++caps)) W1 (Came S J Jx (k0 + upI m A.l i) (m x) W1)) :
  CallsIn Fence.wide 0 Tryz.prog 49 #[A.v,.func (.func g) first caps] W (Came S J Jx k0 ((A.l.map m).sum) W):=by
 have hr:=hA.row
 obtain ⟨p,cap,l⟩:=A
 simp only [Sl.v] at hl hf hr ⊢
 obtain ⟨n,hn⟩:∃ n,l.length = n:=⟨_,rfl⟩
 rw [hn] at hl ⊢
 have hall:=upI_all m l n hn
 have hf':=Lib.hid hf
 have hn':=Lib.hid hn
 have hl':=Lib.hid hl
 have hr':=Lib.hid hr
 have hS':=Lib.hid hS
 have hb':=Lib.hid hb
 have hJ':=Lib.hid hJ
 have hall':=Lib.hid hall
 have h0':J (k0 + upI m l 0) W:=by rw [upI_zero];exact h0
 have hC':=Lib.hid hC
 clear hf hn hl hr hA hS hb hJ hall h0 hC
 refine callsIn_of_wp Tryz.func49 rfl trivial ?_ rfl
 simp only [Tryz.ntmps49,List.size_toArray,List.length_cons,List.length_nil,Nat.reduceAdd,Nat.reduceSub,Array.replicate_succ,Array.replicate_zero,List.push_toArray,List.append_toArray,List.nil_append,List.cons_append]
 gi_wp2
 gi_loopw [5,6,9] (fun _ _ iv wr=>∃ i:Nat,i ≤ n ∧ iv = .int .i64 (i:Int) ∧ J (k0 + upI m l i) wr ∧ Kq S W wr) (fun _ _ iv _=>n - (intOf iv).toNat)
 case atStart=>exact ⟨0,Nat.zero_le _,rfl,h0',Kq.refl _ _⟩
 case round =>
  obtain ⟨i,hi,rfl,hJi,hK⟩:=hrel
  by_cases hlt:i < n
  ·obtain ⟨a,ha⟩:∃ s,l[i]? = some s:=⟨l[i]'(by rw [hn'.out];exact hlt),List.getElem?_eq_getElem _⟩
   obtain ⟨pa,rfl,hcV⟩:=hr'.out i a ha
   have hc:=kq_cells (hw.trans hK) hS'.out hcV
   have hup:=upI_succ m l i a ha
   have a6:=Lib.hid (wr_succ i n hlt hl'.out)
   obtain ⟨c0,c1p,c1n,c1c,ea⟩:=hC'.out a
   have d0:=hc.c0 _ (by rw [ea];rfl)
   have d1:=hc.cs 0 _ (by rw [ea];rfl)
   have hJi':=Lib.hid hJi
   have q1:=Lib.hid (fun o:Obj=>hf'.out i a (wr.alloc o) ha (hK.trans (Kq.alloc _ _ o)) (lays_alloc hJ'.out hJi o))
   simp only [ea] at q1
   clear ea
   have ha':=Lib.hid ha
   clear hcV hc ha hJi
   gi_wp2
   refine ⟨trivial,?_⟩
   gi_wp2
   refine ⟨rfl,CallsIn.mono (calls_wide (q1.out _)) ?_⟩
   rintro e w' (⟨rfl,hJ2,hk2⟩ | ⟨rfl,hx⟩)
   ·gi_wp2
    go_roundw
    case rel=>exact ⟨i + 1,hlt,congrArg (Value.int .i64) a6.out,by rw [hup,← Nat.add_assoc];exact hJ2,(hK.trans (Kq.alloc _ _ _)).trans hk2⟩
    case measure=>exact step_less i n hlt a6.out
   ·gi_wp2
    go_ret
    exact .inr ⟨rfl,hx⟩
  ·obtain rfl:i = n:=by omega
   have hJi2:=Lib.hid hJi
   clear hlt hi hJi
   gi_wp2
   go_ret
   exact .inl ⟨rfl,by rw [← hall'.out];exact hJi2.out,hK⟩
set_option maxRecDepth 100000 in
set_option maxHeartbeats 8000000 in
theorem eachr_Field {α:Type} (cells:α → List Value) (hC:∀ x,shp_Field (cells x)) (m:α → Nat) (g:FuncId) (first caps:Array Value) (K:α → Prop) (S:Nat → Prop) (J Jx:Nat → World → Prop) (hJ:Lays J) (w:World) (hS:∀ b,S b → w.heap.size ≤ b) (A:Sl α) (hA:A.In w 2 cells K) (hl:A.l.length ≤ 1048576)
  (hent:∀ args w,(callFunc g args).run Tryz.prog w = .ok (.enter g args) w) (k0:Nat) (W:World) (hw:Kq S w W) (hb:∀ b,S b → b < W.heap.size) (h0:J k0 W)
  (hf:∀ (i:Nat) (x:α) (W1:World),A.l[i]? = some x → Kq S W W1 → J (k0 + upI m A.l i) W1 → CallsIn Fence.wide 0 Tryz.prog g (first++(#[.int .i64 (i:Int),.agg (cells x).toArray]++caps)) W1 (Came S J Jx (k0 + upI m A.l i) (m x) W1)) :
  CallsIn Fence.wide 0 Tryz.prog 51 #[A.v,.func (.func g) first caps] W (Came S J Jx k0 ((A.l.map m).sum) W):=by
 have hr:=hA.row
 obtain ⟨p,cap,l⟩:=A
 simp only [Sl.v] at hl hf hr ⊢
 obtain ⟨n,hn⟩:∃ n,l.length = n:=⟨_,rfl⟩
 rw [hn] at hl ⊢
 have hall:=upI_all m l n hn
 have hf':=Lib.hid hf
 have hn':=Lib.hid hn
 have hl':=Lib.hid hl
 have hr':=Lib.hid hr
 have hS':=Lib.hid hS
 have hb':=Lib.hid hb
 have hJ':=Lib.hid hJ
 have hall':=Lib.hid hall
 have h0':J (k0 + upI m l 0) W:=by rw [upI_zero];exact h0
 have hC':=Lib.hid hC
 clear hf hn hl hr hA hS hb hJ hall h0 hC
 refine callsIn_of_wp Tryz.func51 rfl trivial ?_ rfl
 simp only [Tryz.ntmps51,List.size_toArray,List.length_cons,List.length_nil,Nat.reduceAdd,Nat.reduceSub,Array.replicate_succ,Array.replicate_zero,List.push_toArray,List.append_toArray,List.nil_append,List.cons_append]
 gi_wp2
 gi_loopw [5,6,9] (fun _ _ iv wr=>∃ i:Nat,i ≤ n ∧ iv = .int .i64 (i:Int) ∧ J (k0 + upI m l i) wr ∧ Kq S W wr) (fun _ _ iv _=>n - (intOf iv).toNat)
 case atStart=>exact ⟨0,Nat.zero_le _,rfl,h0',Kq.refl _ _⟩
 case round =>
  obtain ⟨i,hi,rfl,hJi,hK⟩:=hrel
  by_cases hlt:i < n
  ·obtain ⟨a,ha⟩:∃ s,l[i]? = some s:=⟨l[i]'(by rw [hn'.out];exact hlt),List.getElem?_eq_getElem _⟩
   obtain ⟨pa,rfl,hcV⟩:=hr'.out i a ha
   have hc:=kq_cells (hw.trans hK) hS'.out hcV
   have hup:=upI_succ m l i a ha
   have a6:=Lib.hid (wr_succ i n hlt hl'.out)
   obtain ⟨c0,c1,ea⟩:=hC'.out a
   have d0:=hc.c0 _ (by rw [ea];rfl)
   have d1:=hc.cs 0 _ (by rw [ea];rfl)
   have hJi':=Lib.hid hJi
   have q1:=Lib.hid (fun o:Obj=>hf'.out i a (wr.alloc o) ha (hK.trans (Kq.alloc _ _ o)) (lays_alloc hJ'.out hJi o))
   simp only [ea] at q1
   clear ea
   have ha':=Lib.hid ha
   clear hcV hc ha hJi
   gi_wp2
   refine ⟨trivial,?_⟩
   gi_wp2
   refine ⟨rfl,CallsIn.mono (calls_wide (q1.out _)) ?_⟩
   rintro e w' (⟨rfl,hJ2,hk2⟩ | ⟨rfl,hx⟩)
   ·gi_wp2
    go_roundw
    case rel=>exact ⟨i + 1,hlt,congrArg (Value.int .i64) a6.out,by rw [hup,← Nat.add_assoc];exact hJ2,(hK.trans (Kq.alloc _ _ _)).trans hk2⟩
    case measure=>exact step_less i n hlt a6.out
   ·gi_wp2
    go_ret
    exact .inr ⟨rfl,hx⟩
  ·obtain rfl:i = n:=by omega
   have hJi2:=Lib.hid hJi
   clear hlt hi hJi
   gi_wp2
   go_ret
   exact .inl ⟨rfl,by rw [← hall'.out];exact hJi2.out,hK⟩
set_option maxRecDepth 100000 in
set_option maxHeartbeats 8000000 in
theorem eachr_State {α:Type} (cells:α → List Value) (hC:∀ x,shp_State (cells x)) (m:α → Nat) (g:FuncId) (first caps:Array Value) (K:α → Prop) (S:Nat → Prop) (J Jx:Nat → World → Prop) (hJ:Lays J) (w:World) (hS:∀ b,S b → w.heap.size ≤ b) (A:Sl α) (hA:A.In w 5 cells K) (hl:A.l.length ≤ 1048576)
  (hent:∀ args w,(callFunc g args).run Tryz.prog w = .ok (.enter g args) w) (k0:Nat) (W:World) (hw:Kq S w W) (hb:∀ b,S b → b < W.heap.size) (h0:J k0 W)
  (hf:∀ (i:Nat) (x:α) (W1:World),A.l[i]? = some x → Kq S W W1 → J (k0 + upI m A.l i) W1 → CallsIn Fence.wide 0 Tryz.prog g (first++(#[.int .i64 (i:Int),.agg (cells x).toArray]++caps)) W1 (Came S J Jx (k0 + upI m A.l i) (m x) W1)) :
  CallsIn Fence.wide 0 Tryz.prog 54 #[A.v,.func (.func g) first caps] W (Came S J Jx k0 ((A.l.map m).sum) W):=by
 have hr:=hA.row
 obtain ⟨p,cap,l⟩:=A
 simp only [Sl.v] at hl hf hr ⊢
 obtain ⟨n,hn⟩:∃ n,l.length = n:=⟨_,rfl⟩
 rw [hn] at hl ⊢
 have hall:=upI_all m l n hn
 have hf':=Lib.hid hf
 have hn':=Lib.hid hn
 have hl':=Lib.hid hl
 have hr':=Lib.hid hr
 have hS':=Lib.hid hS
 have hb':=Lib.hid hb
 have hJ':=Lib.hid hJ
 have hall':=Lib.hid hall
 have h0':J (k0 + upI m l 0) W:=by rw [upI_zero];exact h0
 have hC':=Lib.hid hC
 clear hf hn hl hr hA hS hb hJ hall h0 hC
 refine callsIn_of_wp Tryz.func54 rfl trivial ?_ rfl
 simp only [Tryz.ntmps54,List.size_toArray,List.length_cons,List.length_nil,Nat.reduceAdd,Nat.reduceSub,Array.replicate_succ,Array.replicate_zero,List.push_toArray,List.append_toArray,List.nil_append,List.cons_append]
 gi_wp2
 gi_loopw [5,6,9] (fun _ _ iv wr=>∃ i:Nat,i ≤ n ∧ iv = .int .i64 (i:Int) ∧ J (k0 + upI m l i) wr ∧ Kq S W wr) (fun _ _ iv _=>n - (intOf iv).toNat)
 case atStart=>exact ⟨0,Nat.zero_le _,rfl,h0',Kq.refl _ _⟩
 case round =>
  obtain ⟨i,hi,rfl,hJi,hK⟩:=hrel
  by_cases hlt:i < n
  ·obtain ⟨a,ha⟩:∃ s,l[i]? = some s:=⟨l[i]'(by rw [hn'.out];exact hlt),List.getElem?_eq_getElem _⟩
   obtain ⟨pa,rfl,hcV⟩:=hr'.out i a ha
   have hc:=kq_cells (hw.trans hK) hS'.out hcV
   have hup:=upI_succ m l i a ha
   have a6:=Lib.hid (wr_succ i n hlt hl'.out)
   obtain ⟨c0,c1p,c1n,c1c,c2,c3p,c3n,c3c,c4p,c4n,c4c,ea⟩:=hC'.out a
   have d0:=hc.c0 _ (by rw [ea];rfl)
   have d1:=hc.cs 0 _ (by rw [ea];rfl)
   have d2:=hc.cs 1 _ (by rw [ea];rfl)
   have d3:=hc.cs 2 _ (by rw [ea];rfl)
   have d4:=hc.cs 3 _ (by rw [ea];rfl)
   have hJi':=Lib.hid hJi
   have q1:=Lib.hid (fun o:Obj=>hf'.out i a (wr.alloc o) ha (hK.trans (Kq.alloc _ _ o)) (lays_alloc hJ'.out hJi o))
   simp only [ea] at q1
   clear ea
   have ha':=Lib.hid ha
   clear hcV hc ha hJi
   gi_wp2
   refine ⟨trivial,?_⟩
   gi_wp2
   refine ⟨rfl,CallsIn.mono (calls_wide (q1.out _)) ?_⟩
   rintro e w' (⟨rfl,hJ2,hk2⟩ | ⟨rfl,hx⟩)
   ·gi_wp2
    go_roundw
    case rel=>exact ⟨i + 1,hlt,congrArg (Value.int .i64) a6.out,by rw [hup,← Nat.add_assoc];exact hJ2,(hK.trans (Kq.alloc _ _ _)).trans hk2⟩
    case measure=>exact step_less i n hlt a6.out
   ·gi_wp2
    go_ret
    exact .inr ⟨rfl,hx⟩
  ·obtain rfl:i = n:=by omega
   have hJi2:=Lib.hid hJi
   clear hlt hi hJi
   gi_wp2
   go_ret
   exact .inl ⟨rfl,by rw [← hall'.out];exact hJi2.out,hK⟩
set_option maxRecDepth 100000 in
set_option maxHeartbeats 8000000 in
theorem eachr_Action {α:Type} (cells:α → List Value) (hC:∀ x,shp_Action (cells x)) (m:α → Nat) (g:FuncId) (first caps:Array Value) (K:α → Prop) (S:Nat → Prop) (J Jx:Nat → World → Prop) (hJ:Lays J) (w:World) (hS:∀ b,S b → w.heap.size ≤ b) (A:Sl α) (hA:A.In w 3 cells K) (hl:A.l.length ≤ 1048576)
  (hent:∀ args w,(callFunc g args).run Tryz.prog w = .ok (.enter g args) w) (k0:Nat) (W:World) (hw:Kq S w W) (hb:∀ b,S b → b < W.heap.size) (h0:J k0 W)
  (hf:∀ (i:Nat) (x:α) (W1:World),A.l[i]? = some x → Kq S W W1 → J (k0 + upI m A.l i) W1 → CallsIn Fence.wide 0 Tryz.prog g (first++(#[.int .i64 (i:Int),.agg (cells x).toArray]++caps)) W1 (Came S J Jx (k0 + upI m A.l i) (m x) W1)) :
  CallsIn Fence.wide 0 Tryz.prog 56 #[A.v,.func (.func g) first caps] W (Came S J Jx k0 ((A.l.map m).sum) W):=by
 have hr:=hA.row
 obtain ⟨p,cap,l⟩:=A
 simp only [Sl.v] at hl hf hr ⊢
 obtain ⟨n,hn⟩:∃ n,l.length = n:=⟨_,rfl⟩
 rw [hn] at hl ⊢
 have hall:=upI_all m l n hn
 have hf':=Lib.hid hf
 have hn':=Lib.hid hn
 have hl':=Lib.hid hl
 have hr':=Lib.hid hr
 have hS':=Lib.hid hS
 have hb':=Lib.hid hb
 have hJ':=Lib.hid hJ
 have hall':=Lib.hid hall
 have h0':J (k0 + upI m l 0) W:=by rw [upI_zero];exact h0
 have hC':=Lib.hid hC
 clear hf hn hl hr hA hS hb hJ hall h0 hC
 refine callsIn_of_wp Tryz.func56 rfl trivial ?_ rfl
 simp only [Tryz.ntmps56,List.size_toArray,List.length_cons,List.length_nil,Nat.reduceAdd,Nat.reduceSub,Array.replicate_succ,Array.replicate_zero,List.push_toArray,List.append_toArray,List.nil_append,List.cons_append]
 gi_wp2
 gi_loopw [5,6,9] (fun _ _ iv wr=>∃ i:Nat,i ≤ n ∧ iv = .int .i64 (i:Int) ∧ J (k0 + upI m l i) wr ∧ Kq S W wr) (fun _ _ iv _=>n - (intOf iv).toNat)
 case atStart=>exact ⟨0,Nat.zero_le _,rfl,h0',Kq.refl _ _⟩
 case round =>
  obtain ⟨i,hi,rfl,hJi,hK⟩:=hrel
  by_cases hlt:i < n
  ·obtain ⟨a,ha⟩:∃ s,l[i]? = some s:=⟨l[i]'(by rw [hn'.out];exact hlt),List.getElem?_eq_getElem _⟩
   obtain ⟨pa,rfl,hcV⟩:=hr'.out i a ha
   have hc:=kq_cells (hw.trans hK) hS'.out hcV
   have hup:=upI_succ m l i a ha
   have a6:=Lib.hid (wr_succ i n hlt hl'.out)
   obtain ⟨c0,c1p,c1n,c1c,c2p,c2n,c2c,ea⟩:=hC'.out a
   have d0:=hc.c0 _ (by rw [ea];rfl)
   have d1:=hc.cs 0 _ (by rw [ea];rfl)
   have d2:=hc.cs 1 _ (by rw [ea];rfl)
   have hJi':=Lib.hid hJi
   have q1:=Lib.hid (fun o:Obj=>hf'.out i a (wr.alloc o) ha (hK.trans (Kq.alloc _ _ o)) (lays_alloc hJ'.out hJi o))
   simp only [ea] at q1
   clear ea
   have ha':=Lib.hid ha
   clear hcV hc ha hJi
   gi_wp2
   refine ⟨trivial,?_⟩
   gi_wp2
   refine ⟨rfl,CallsIn.mono (calls_wide (q1.out _)) ?_⟩
   rintro e w' (⟨rfl,hJ2,hk2⟩ | ⟨rfl,hx⟩)
   ·gi_wp2
    go_roundw
    case rel=>exact ⟨i + 1,hlt,congrArg (Value.int .i64) a6.out,by rw [hup,← Nat.add_assoc];exact hJ2,(hK.trans (Kq.alloc _ _ _)).trans hk2⟩
    case measure=>exact step_less i n hlt a6.out
   ·gi_wp2
    go_ret
    exact .inr ⟨rfl,hx⟩
  ·obtain rfl:i = n:=by omega
   have hJi2:=Lib.hid hJi
   clear hlt hi hJi
   gi_wp2
   go_ret
   exact .inl ⟨rfl,by rw [← hall'.out];exact hJi2.out,hK⟩
set_option maxRecDepth 100000 in
set_option maxHeartbeats 8000000 in
theorem eachr_Table {α:Type} (cells:α → List Value) (hC:∀ x,shp_Table (cells x)) (m:α → Nat) (g:FuncId) (first caps:Array Value) (K:α → Prop) (S:Nat → Prop) (J Jx:Nat → World → Prop) (hJ:Lays J) (w:World) (hS:∀ b,S b → w.heap.size ≤ b) (A:Sl α) (hA:A.In w 5 cells K) (hl:A.l.length ≤ 1048576)
  (hent:∀ args w,(callFunc g args).run Tryz.prog w = .ok (.enter g args) w) (k0:Nat) (W:World) (hw:Kq S w W) (hb:∀ b,S b → b < W.heap.size) (h0:J k0 W)
  (hf:∀ (i:Nat) (x:α) (W1:World),A.l[i]? = some x → Kq S W W1 → J (k0 + upI m A.l i) W1 → CallsIn Fence.wide 0 Tryz.prog g (first++(#[.int .i64 (i:Int),.agg (cells x).toArray]++caps)) W1 (Came S J Jx (k0 + upI m A.l i) (m x) W1)) :
  CallsIn Fence.wide 0 Tryz.prog 58 #[A.v,.func (.func g) first caps] W (Came S J Jx k0 ((A.l.map m).sum) W):=by
 have hr:=hA.row
 obtain ⟨p,cap,l⟩:=A
 simp only [Sl.v] at hl hf hr ⊢
 obtain ⟨n,hn⟩:∃ n,l.length = n:=⟨_,rfl⟩
 rw [hn] at hl ⊢
 have hall:=upI_all m l n hn
 have hf':=Lib.hid hf
 have hn':=Lib.hid hn
 have hl':=Lib.hid hl
 have hr':=Lib.hid hr
 have hS':=Lib.hid hS
 have hb':=Lib.hid hb
 have hJ':=Lib.hid hJ
 have hall':=Lib.hid hall
 have h0':J (k0 + upI m l 0) W:=by rw [upI_zero];exact h0
 have hC':=Lib.hid hC
 clear hf hn hl hr hA hS hb hJ hall h0 hC
 refine callsIn_of_wp Tryz.func58 rfl trivial ?_ rfl
 simp only [Tryz.ntmps58,List.size_toArray,List.length_cons,List.length_nil,Nat.reduceAdd,Nat.reduceSub,Array.replicate_succ,Array.replicate_zero,List.push_toArray,List.append_toArray,List.nil_append,List.cons_append]
 gi_wp2
 gi_loopw [5,6,9] (fun _ _ iv wr=>∃ i:Nat,i ≤ n ∧ iv = .int .i64 (i:Int) ∧ J (k0 + upI m l i) wr ∧ Kq S W wr) (fun _ _ iv _=>n - (intOf iv).toNat)
 case atStart=>exact ⟨0,Nat.zero_le _,rfl,h0',Kq.refl _ _⟩
 case round =>
  obtain ⟨i,hi,rfl,hJi,hK⟩:=hrel
  by_cases hlt:i < n
  ·obtain ⟨a,ha⟩:∃ s,l[i]? = some s:=⟨l[i]'(by rw [hn'.out];exact hlt),List.getElem?_eq_getElem _⟩
   obtain ⟨pa,rfl,hcV⟩:=hr'.out i a ha
   have hc:=kq_cells (hw.trans hK) hS'.out hcV
   have hup:=upI_succ m l i a ha
   have a6:=Lib.hid (wr_succ i n hlt hl'.out)
   obtain ⟨c0,c1p,c1n,c1c,c2p,c2n,c2c,c3,c4p,c4n,c4c,ea⟩:=hC'.out a
   have d0:=hc.c0 _ (by rw [ea];rfl)
   have d1:=hc.cs 0 _ (by rw [ea];rfl)
   have d2:=hc.cs 1 _ (by rw [ea];rfl)
   have d3:=hc.cs 2 _ (by rw [ea];rfl)
   have d4:=hc.cs 3 _ (by rw [ea];rfl)
   have hJi':=Lib.hid hJi
   have q1:=Lib.hid (fun o:Obj=>hf'.out i a (wr.alloc o) ha (hK.trans (Kq.alloc _ _ o)) (lays_alloc hJ'.out hJi o))
   simp only [ea] at q1
   clear ea
   have ha':=Lib.hid ha
   clear hcV hc ha hJi
   gi_wp2
   refine ⟨trivial,?_⟩
   gi_wp2
   refine ⟨rfl,CallsIn.mono (calls_wide (q1.out _)) ?_⟩
   rintro e w' (⟨rfl,hJ2,hk2⟩ | ⟨rfl,hx⟩)
   ·gi_wp2
    go_roundw
    case rel=>exact ⟨i + 1,hlt,congrArg (Value.int .i64) a6.out,by rw [hup,← Nat.add_assoc];exact hJ2,(hK.trans (Kq.alloc _ _ _)).trans hk2⟩
    case measure=>exact step_less i n hlt a6.out
   ·gi_wp2
    go_ret
    exact .inr ⟨rfl,hx⟩
  ·obtain rfl:i = n:=by omega
   have hJi2:=Lib.hid hJi
   clear hlt hi hJi
   gi_wp2
   go_ret
   exact .inl ⟨rfl,by rw [← hall'.out];exact hJi2.out,hK⟩
set_option maxRecDepth 100000 in
set_option maxHeartbeats 8000000 in
theorem eachr_Stmt {α:Type} (cells:α → List Value) (hC:∀ x,shp_Stmt (cells x)) (m:α → Nat) (g:FuncId) (first caps:Array Value) (K:α → Prop) (S:Nat → Prop) (J Jx:Nat → World → Prop) (hJ:Lays J) (w:World) (hS:∀ b,S b → w.heap.size ≤ b) (A:Sl α) (hA:A.In w 14 cells K) (hl:A.l.length ≤ 1048576)
  (hent:∀ args w,(callFunc g args).run Tryz.prog w = .ok (.enter g args) w) (k0:Nat) (W:World) (hw:Kq S w W) (hb:∀ b,S b → b < W.heap.size) (h0:J k0 W)
  (hf:∀ (i:Nat) (x:α) (W1:World),A.l[i]? = some x → Kq S W W1 → J (k0 + upI m A.l i) W1 → CallsIn Fence.wide 0 Tryz.prog g (first++(#[.int .i64 (i:Int),.agg (cells x).toArray]++caps)) W1 (Came S J Jx (k0 + upI m A.l i) (m x) W1)) :
  CallsIn Fence.wide 0 Tryz.prog 105 #[A.v,.func (.func g) first caps] W (Came S J Jx k0 ((A.l.map m).sum) W):=by
 have hr:=hA.row
 obtain ⟨p,cap,l⟩:=A
 simp only [Sl.v] at hl hf hr ⊢
 obtain ⟨n,hn⟩:∃ n,l.length = n:=⟨_,rfl⟩
 rw [hn] at hl ⊢
 have hall:=upI_all m l n hn
 have hf':=Lib.hid hf
 have hn':=Lib.hid hn
 have hl':=Lib.hid hl
 have hr':=Lib.hid hr
 have hS':=Lib.hid hS
 have hb':=Lib.hid hb
 have hJ':=Lib.hid hJ
 have hall':=Lib.hid hall
 have h0':J (k0 + upI m l 0) W:=by rw [upI_zero];exact h0
 have hC':=Lib.hid hC
 clear hf hn hl hr hA hS hb hJ hall h0 hC
 refine callsIn_of_wp Tryz.func105 rfl trivial ?_ rfl
 simp only [Tryz.ntmps105,List.size_toArray,List.length_cons,List.length_nil,Nat.reduceAdd,Nat.reduceSub,Array.replicate_succ,Array.replicate_zero,List.push_toArray,List.append_toArray,List.nil_append,List.cons_append]
 gi_wp2
 gi_loopw [5,6,9] (fun _ _ iv wr=>∃ i:Nat,i ≤ n ∧ iv = .int .i64 (i:Int) ∧ J (k0 + upI m l i) wr ∧ Kq S W wr) (fun _ _ iv _=>n - (intOf iv).toNat)
 case atStart=>exact ⟨0,Nat.zero_le _,rfl,h0',Kq.refl _ _⟩
 case round =>
  obtain ⟨i,hi,rfl,hJi,hK⟩:=hrel
  by_cases hlt:i < n
  ·obtain ⟨a,ha⟩:∃ s,l[i]? = some s:=⟨l[i]'(by rw [hn'.out];exact hlt),List.getElem?_eq_getElem _⟩
   obtain ⟨pa,rfl,hcV⟩:=hr'.out i a ha
   have hc:=kq_cells (hw.trans hK) hS'.out hcV
   have hup:=upI_succ m l i a ha
   have a6:=Lib.hid (wr_succ i n hlt hl'.out)
   obtain ⟨c0,c1,c2,c3,c4,c5,c6,c7,c8,c9,c10,c11p,c11n,c11c,c12p,c12n,c12c,c13p,c13n,c13c,ea⟩:=hC'.out a
   have d0:=hc.c0 _ (by rw [ea];rfl)
   have d1:=hc.cs 0 _ (by rw [ea];rfl)
   have d2:=hc.cs 1 _ (by rw [ea];rfl)
   have d3:=hc.cs 2 _ (by rw [ea];rfl)
   have d4:=hc.cs 3 _ (by rw [ea];rfl)
   have d5:=hc.cs 4 _ (by rw [ea];rfl)
   have d6:=hc.cs 5 _ (by rw [ea];rfl)
   have d7:=hc.cs 6 _ (by rw [ea];rfl)
   have d8:=hc.cs 7 _ (by rw [ea];rfl)
   have d9:=hc.cs 8 _ (by rw [ea];rfl)
   have d10:=hc.cs 9 _ (by rw [ea];rfl)
   have d11:=hc.cs 10 _ (by rw [ea];rfl)
   have d12:=hc.cs 11 _ (by rw [ea];rfl)
   have d13:=hc.cs 12 _ (by rw [ea];rfl)
   have hJi':=Lib.hid hJi
   have q1:=Lib.hid (fun o:Obj=>hf'.out i a (wr.alloc o) ha (hK.trans (Kq.alloc _ _ o)) (lays_alloc hJ'.out hJi o))
   simp only [ea] at q1
   clear ea
   have ha':=Lib.hid ha
   clear hcV hc ha hJi
   gi_wp2
   refine ⟨trivial,?_⟩
   gi_wp2
   refine ⟨rfl,CallsIn.mono (calls_wide (q1.out _)) ?_⟩
   rintro e w' (⟨rfl,hJ2,hk2⟩ | ⟨rfl,hx⟩)
   ·gi_wp2
    go_roundw
    case rel=>exact ⟨i + 1,hlt,congrArg (Value.int .i64) a6.out,by rw [hup,← Nat.add_assoc];exact hJ2,(hK.trans (Kq.alloc _ _ _)).trans hk2⟩
    case measure=>exact step_less i n hlt a6.out
   ·gi_wp2
    go_ret
    exact .inr ⟨rfl,hx⟩
  ·obtain rfl:i = n:=by omega
   have hJi2:=Lib.hid hJi
   clear hlt hi hJi
   gi_wp2
   go_ret
   exact .inl ⟨rfl,by rw [← hall'.out];exact hJi2.out,hK⟩
set_option maxRecDepth 100000 in
set_option maxHeartbeats 8000000 in
theorem eachr_string (m:ByteArray → Nat) (g:FuncId) (first caps:Array Value) (K:ByteArray → Prop) (S:Nat → Prop) (J Jx:Nat → World → Prop) (hJ:Lays J) (w:World) (hS:∀ b,S b → w.heap.size ≤ b) (A:Sl ByteArray) (hA:A.In w 1 strCells K) (hl:A.l.length ≤ 1048576)
  (hent:∀ args w,(callFunc g args).run Tryz.prog w = .ok (.enter g args) w) (k0:Nat) (W:World) (hw:Kq S w W) (hb:∀ b,S b → b < W.heap.size) (h0:J k0 W)
  (hf:∀ (i:Nat) (x:ByteArray) (W1:World),A.l[i]? = some x → Kq S W W1 → J (k0 + upI m A.l i) W1 → CallsIn Fence.wide 0 Tryz.prog g (first++(#[.int .i64 (i:Int),.string x]++caps)) W1 (Came S J Jx (k0 + upI m A.l i) (m x) W1)) :
  CallsIn Fence.wide 0 Tryz.prog 61 #[A.v,.func (.func g) first caps] W (Came S J Jx k0 ((A.l.map m).sum) W):=by
 have hr:=hA.row
 obtain ⟨p,cap,l⟩:=A
 simp only [Sl.v] at hl hf hr ⊢
 obtain ⟨n,hn⟩:∃ n,l.length = n:=⟨_,rfl⟩
 rw [hn] at hl ⊢
 have hall:=upI_all m l n hn
 have hf':=Lib.hid hf
 have hn':=Lib.hid hn
 have hl':=Lib.hid hl
 have hr':=Lib.hid hr
 have hS':=Lib.hid hS
 have hb':=Lib.hid hb
 have hJ':=Lib.hid hJ
 have hall':=Lib.hid hall
 have h0':J (k0 + upI m l 0) W:=by rw [upI_zero];exact h0
 clear hf hn hl hr hA hS hb hJ hall h0
 refine callsIn_of_wp Tryz.func61 rfl trivial ?_ rfl
 simp only [Tryz.ntmps61,List.size_toArray,List.length_cons,List.length_nil,Nat.reduceAdd,Nat.reduceSub,Array.replicate_succ,Array.replicate_zero,List.push_toArray,List.append_toArray,List.nil_append,List.cons_append]
 gi_wp2
 gi_loopw [5,6,9] (fun _ _ iv wr=>∃ i:Nat,i ≤ n ∧ iv = .int .i64 (i:Int) ∧ J (k0 + upI m l i) wr ∧ Kq S W wr) (fun _ _ iv _=>n - (intOf iv).toNat)
 case atStart=>exact ⟨0,Nat.zero_le _,rfl,h0',Kq.refl _ _⟩
 case round =>
  obtain ⟨i,hi,rfl,hJi,hK⟩:=hrel
  by_cases hlt:i < n
  ·obtain ⟨a,ha⟩:∃ s,l[i]? = some s:=⟨l[i]'(by rw [hn'.out];exact hlt),List.getElem?_eq_getElem _⟩
   obtain ⟨pa,rfl,hcV⟩:=hr'.out i a ha
   have hc:=kq_cells (hw.trans hK) hS'.out hcV
   have hup:=upI_succ m l i a ha
   have a6:=Lib.hid (wr_succ i n hlt hl'.out)
   have d0:=hc.c0 _ rfl
   simp only [Nat.mul_one] at d0
   have hJi':=Lib.hid hJi
   have q1:=Lib.hid (hf'.out i a wr ha hK hJi)
   have ha':=Lib.hid ha
   clear hcV hc ha hJi
   gi_wp2
   refine ⟨trivial,?_⟩
   gi_wp2
   refine ⟨rfl,CallsIn.mono (calls_wide q1.out) ?_⟩
   rintro e w' (⟨rfl,hJ2,hk2⟩ | ⟨rfl,hx⟩)
   ·gi_wp2
    go_roundw
    case rel=>exact ⟨i + 1,hlt,congrArg (Value.int .i64) a6.out,by rw [hup,← Nat.add_assoc];exact hJ2,hK.trans hk2⟩
    case measure=>exact step_less i n hlt a6.out
   ·gi_wp2
    go_ret
    exact .inr ⟨rfl,hx⟩
  ·obtain rfl:i = n:=by omega
   have hJi2:=Lib.hid hJi
   clear hlt hi hJi
   gi_wp2
   go_ret
   exact .inl ⟨rfl,by rw [← hall'.out];exact hJi2.out,hK⟩
end Go.Proofs.YtlmhldcebllckaaGreat
