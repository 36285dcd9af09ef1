/-
  WHAT IS PROVED HERE: a part of the proof (made narrower and merged by program; the parts: Dk Dl Dm).
-/
import Derived.Test.YtobhijbncchpiaaGreatM26
namespace Go.Proofs.YtobhijbncchpiaaGreat
open Go.RowKit Go.Shelf
/-- What may turn: some boxes, by their numbers; and rows of items, from a block on. -/
structure Bx where
 f:Nat→Prop
 base:Nat
def rowAtB (W:World) (b:Nat):Prop:=∃ cur fz,W.heap[b]?=some (.cells cur 49 fz)
def Bx.s (S:Bx) (W:World) (b:Nat):Prop:=S.f b∨(S.base≤b∧rowAtB W b)
def Bx.over (S:Bx) (n:Nat):Prop:=n≤S.base∧∀ b,S.f b→n≤b
theorem rowAtB.same {W W':World} {b:Nat} (h:rowAtB W' b) (e:W'.heap[b]?=W.heap[b]?):rowAtB W b:=by
 obtain⟨cur,fz,h⟩:=h
 exact⟨cur,fz,e ▸ h⟩
/-- Whatever cell stood in a block that may not turn stands as it stood; what may turn could before, or is new. -/
structure Kr (S:Bx) (W W':World):Prop where
 size:W.heap.size≤W'.heap.size
 cell:∀ a v,¬ S.s W a.block→W.cell? a=some v→W'.cell? a=some v
 new:∀ b,S.s W' b→S.s W b∨W.heap.size≤b
 low:∀ B,B≤W.heap.size→(∀ b,S.s W b→B≤b)→Below B W W'
theorem Kr.refl (S:Bx) (W:World):Kr S W W:=⟨Nat.le_refl _,fun _ _ _ h=>h,fun _ h=>.inl h,fun B _ _=>Below.refl B W⟩
theorem Kr.trans {S:Bx} {A B C:World} (h:Kr S A B) (k:Kr S B C):Kr S A C :=
 ⟨Nat.le_trans h.size k.size,fun a v hs hv=>k.cell a v (fun q=>by
   rcases h.new _ q with q | q
   ·exact hs q
   ·have:=World.block_lt_of_cell? A a hv;omega) (h.cell a v hs hv),
  fun b q=>by
   rcases k.new _ q with q | q
   ·exact h.new _ q
   ·exact .inr (Nat.le_trans h.size q),
  fun b hb hs=>(h.low b hb hs).trans (k.low b (Nat.le_trans hb h.size) fun c q=>by
   rcases h.new _ q with q | q
   ·exact hs _ q
   ·omega)⟩
/-- Where all blocks of old stand but some that may turn. -/
theorem Kr.of {S:Bx} {W W':World} (hs:W.heap.size≤W'.heap.size) (hb:∀ b,b < W.heap.size→W'.heap[b]?=W.heap[b]?∨(S.s W b)) (hl:∀ B,B≤W.heap.size→(∀ b,S.s W b→B≤b)→Below B W W'):Kr S W W' :=
 ⟨hs,fun a v q h=>by
  rcases hb a.block (World.block_lt_of_cell? W a h) with e | e
  ·exact (World.cell?_of_block e).trans h
  ·exact absurd e q,
  fun b q=>by
   by_cases hlt:b < W.heap.size
   ·rcases hb b hlt with e | e
    ·rcases q with q | ⟨q,r⟩
     ·exact .inl (.inl q)
     ·exact .inl (.inr ⟨q,r.same e⟩)
    ·exact .inl e
   ·exact .inr (Nat.le_of_not_lt hlt),hl⟩
theorem Kr.plus (S:Bx) (W:World) (y:Ext):Kr S W (plus W y):=.of (by have:=size_plus W y;omega) (fun b h=>.inl ((below_plus W y).block b h)) fun _ hb _=>(below_plus W y).mono hb
theorem Kr.alloc (S:Bx) (W:World) (o:Obj):Kr S W (W.alloc o):=.of (by simp) (fun b h=>.inl (Below.heap_alloc W o b h)) fun B hb _=>(Below.refl B W).alloc hb o
theorem Kr.setCell {S:Bx} (W:World) (p:Addr) (v:Value) (h:S.f p.block):Kr S W (W.setCell p v):=.of (by rw [World.size_setCell];exact Nat.le_refl _) (fun b _=>by
 by_cases e:b=p.block
 ·exact .inr (.inl (e ▸ h))
 ·exact .inl (Below.heap_setCell W p v b e)) fun B _ hs=>(Below.refl B W).setCell (hs _ (.inl h)) v
theorem Kr.grown {S:Bx} {W W':World} {row:Option Nat} (h:W.grownBy W' row) (hr:∀ g,row=some g→S.base≤g∧rowAtB W g):Kr S W W':=.of h.size (fun b hb=>by
 by_cases e:some b=row
 ·exact .inr (.inr (hr b e.symm))
 ·exact .inl (h.block b hb e)) fun B hb hs=>(Below.refl B W).grown h hb fun k e=>hs k (.inr (hr k e))
theorem Kr.putObj {S:Bx} {W:World} {l:Nat} {o:Obj} (o':Obj) (_:W.heap[l]?=some o) (hs:S.f l):Kr S W (W.putObj l o'):=.of (by simp) (fun b _=>by
 by_cases e:b=l
 ·exact .inr (.inl (e ▸ hs))
 ·exact .inl (World.putObj_heap_other e)) fun B hb hB=>(Below.refl B W).grown (grownBy_putObj' W l o') hb (fun k e=>by cases e;exact hB l (.inl hs))
theorem Kr.mono {S T:Bx} {W W':World} (h:Kr S W W') (hs:∀ V b,S.s V b→T.s V b) (ht:∀ b,T.s W' b→¬ S.s W' b→T.s W b∨W.heap.size≤b):Kr T W W' :=
 ⟨h.size,fun a v n=>h.cell a v (fun q=>n (hs _ _ q)),fun b q=>by
  by_cases r:S.s W' b
  ·rcases h.new b r with r | r
   ·exact .inl (hs _ _ r)
   ·exact .inr r
  ·exact ht b q r,fun B hb hB=>h.low B hb (fun b q=>hB b (hs _ _ q))⟩
section
variable {S:Bx} {w W:World} (hk:Kr S w W) (hS:S.over w.heap.size)
include hk hS
theorem kr_cell {a:Addr} {v:Value} (h:w.cell? a=some v):W.cell? a=some v:=hk.cell a v (fun hs=>by
 have h2:=World.block_lt_of_cell? w a h
 rcases hs with hs | ⟨hs,_⟩
 ·have:=hS.2 _ hs;omega
 ·have:=hS.1;omega) h
theorem kr_cells {a:Addr} {cs:List Value} (h:CellsAt w a cs):CellsAt W a cs:=fun j v hj=>kr_cell hk hS (h j v hj)
end
/-- A box of one's own, of another type than an item, may not turn. -/
theorem not_row {S:Bx} {V:World} (hb:∀ b,S.f b→b < V.heap.size) (c:Array Value) (t:TypeId) (ht:t≠49):¬ S.s (V.alloc (.cells c t)) V.heap.size:=by
 rintro (h | ⟨_,cur,fz,h⟩)
 ·exact Nat.lt_irrefl _ (hb _ h)
 ·rw [World.alloc_heap_new] at h
  simp only [Option.some.injEq,Obj.cells.injEq] at h
  exact ht h.2.1
theorem box_kr {S:Bx} {V W:World} (hb:∀ b,S.f b→b < V.heap.size) (c:Array Value) (t:TypeId) (hk:Kr S (V.alloc (.cells c t)) W) (o:Nat) (v:Value) (h:c[o]?=some v) (ht:t≠49:=by decide):W.cell? ⟨V.heap.size,o,none⟩=some v :=
 hk.cell _ _ (not_row hb c t ht) ((cell_new V c t _ o rfl).trans h)
/-- A cell of one's own, in a block that may not turn. -/
structure OwnB (S:Bx) (V:World) (b:Nat) (v:Value):Prop where
 cell:V.cell? ⟨b,0,none⟩=some v
 no:¬ S.s V b
theorem OwnB.up {S:Bx} {V W:World} {b:Nat} {v:Value} (h:OwnB S V b v) (hb:b < V.heap.size) (hk:Kr S V W):OwnB S W b v:=⟨hk.cell _ _ h.no h.cell,fun q=>by
 rcases hk.new b q with q | q
 ·exact h.no q
 ·omega⟩
theorem own_new {S:Bx} {V:World} (hb:∀ b,S.f b→b < V.heap.size) (W:World) (e:W=V) (v:Value) (t:TypeId) (ht:t≠49:=by decide):OwnB S (W.alloc (.cells #[v] t)) W.heap.size v:=by
 subst e
 exact⟨cell_new1 _ _ _,not_row hb _ _ ht⟩
theorem box_own {S:Bx} {V W:World} (hb:∀ b,S.f b→b < V.heap.size) (v:Value) (t:TypeId) (hk:Kr S (V.alloc (.cells #[v] t)) W) (ht:t≠49:=by decide):OwnB S W V.heap.size v :=
 (own_new hb V rfl v t ht).up (by simp) hk
/-- A part of an iterator has been called when k items had come: m more have come, in their order; or a round has said 'no more'. -/
def CameR (S:Bx) (J Jx:Nat→World→Prop) (k m:Nat) (W:World) (e:Ending) (W':World):Prop :=
 (e=.returned (.bool true)∧J (k+m) W'∧Kr S W W')∨(e=.returned (.bool false)∧∃ i,Jx i W')
/-- A round is asked of the item that comes next, and of no other. -/
def NextR {α:Type} (P:Program) (l:Nat) (encs:α→Value) (xs:List α) (S:Bx) (J Jx:Nat→World→Prop):Prop :=
 ∀ (k:Nat) (x:α) (W:World),xs[k]?=some x→J k W→YieldAt Fence.wide 0 P l #[encs x] W (CameR S J Jx k 1 W)
open Go.Shelf
attribute [local go_sem] Oper.semAt_some
set_option maxRecDepth 100000 in
set_option maxHeartbeats 4000000 in
theorem one_inR (l:Nat) (kind a:Int) (S:Bx) (J Jx:Nat→World→Prop) (k:Nat) (W:World) (hy:YieldAt Fence.wide 0 Tryz.prog l #[itV kind a 0] W (CameR S J Jx k 1 W)) :
  CallsIn Fence.wide 0 Tryz.prog 71 #[yv l,.int .u8 kind,.int .i64 a] W (CameR S J Jx k 1 W):=by
 obtain⟨fn,tmps,assign,body,hy,hR⟩:=hy
 unfold itV at hy
 refine callsIn_of_wp Tryz.func71 rfl trivial ?_ rfl
 simp only [Tryz.ntmps71,List.size_toArray,List.length_cons,List.length_nil,Nat.reduceAdd,Nat.reduceSub,Array.replicate_succ,Array.replicate_zero,List.push_toArray,List.append_toArray,List.nil_append,List.cons_append]
 gi_wp2
 refine⟨rfl,(round_wide hR).mono ?_⟩
 rintro e w' (⟨rfl,hJ,hk⟩ | ⟨rfl,hx⟩)
 ·gi_wp2
  go_ret
  exact .inl ⟨rfl,hJ,hk⟩
 ·gi_wp2
  go_ret
  exact .inr ⟨rfl,hx⟩
set_option maxRecDepth 100000 in
set_option maxHeartbeats 8000000 in
theorem parts_inR (l:Nat) (kind a:Int) (n:Nat) (hn:n≤1048576) (S:Bx) (J Jx:Nat→World→Prop) (k:Nat) (W:World) (hy:∀ j W1,j < n→J (k+j) W1→YieldAt Fence.wide 0 Tryz.prog l #[itV kind a (j:Int)] W1 (CameR S J Jx (k+j) 1 W1)) (h0:J k W) :
  CallsIn Fence.wide 0 Tryz.prog 144 #[yv l,.int .u8 kind,.int .i64 a,.int .i64 (n:Int)] W (CameR S J Jx k n W):=by
 have hy':=Lib.hid hy
 have hn':=Lib.hid hn
 clear hy hn
 refine callsIn_of_wp Tryz.func144 rfl trivial ?_ rfl
 simp only [Tryz.ntmps144,List.size_toArray,List.length_cons,List.length_nil,Nat.reduceAdd,Nat.reduceSub,Array.replicate_succ,Array.replicate_zero,List.push_toArray,List.append_toArray,List.nil_append,List.cons_append]
 gi_wp2
 gi_loopw [9,11] (fun _ iv wr=>∃ j:Nat,j≤n∧iv=.int .i64 (j:Int)∧J (k+j) wr∧Kr S W wr) (fun _ iv _=>n - (intOf iv).toNat)
 case atStart=>exact⟨0,Nat.zero_le _,rfl,h0,Kr.refl _ _⟩
 case round =>
  obtain⟨j,hj,rfl,hJ,hK⟩:=hrel
  by_cases hlt:j < n
  ·obtain⟨fn,tmps,assign,body,hy,hR⟩:=hy'.out j wr hlt hJ
   unfold itV at hy
   have a6:=Lib.hid (wr_succ j n hlt hn'.out)
   have hR':=Lib.hid hR
   clear hR
   gi_wp2
   refine⟨rfl,(round_wide hR'.out).mono ?_⟩
   rintro e w' (⟨rfl,hJ2,hk2⟩ | ⟨rfl,hx⟩)
   ·gi_wp2
    go_roundw
    case rel=>exact⟨j+1,hlt,congrArg (Value.int .i64) a6.out,hJ2,hK.trans hk2⟩
    case measure=>exact step_less j n hlt a6.out
   ·gi_wp2
    go_ret
    exact .inr ⟨rfl,hx⟩
  ·obtain rfl:j=n:=by omega
   clear hlt hj
   gi_wp2
   go_ret
   exact .inl ⟨rfl,hJ,hK⟩
open Go.Shelf
attribute [local go_sem] Oper.semAt_some
set_option maxRecDepth 100000 in
set_option maxHeartbeats 8000000 in
theorem eachr_HeaderR {α:Type} (cells:α→List Value) (hC:∀ x,shp_Header (cells x)) (m:α→Nat) (g:FuncId) (first caps:Array Value) (K:α→Prop) (S:Bx) (J Jx:Nat→World→Prop) (hJ:Lays J) (w:World) (hS:S.over w.heap.size) (A:Sl α) (hA:A.In w 2 cells K) (hl:A.l.length≤1048576)
  (hent:∀ args w,(callFunc g args).run Tryz.prog w=.ok (.enter g args) w) (k0:Nat) (W:World) (hw:Kr S w W) (hb:∀ b,S.f b→b < W.heap.size) (h0:J k0 W)
  (hf:∀ (i:Nat) (x:α) (W1:World),A.l[i]?=some x→Kr S W W1→J (k0+upI m A.l i) W1→CallsIn Fence.wide 0 Tryz.prog g (first++(#[.int .i64 (i:Int),.agg (cells x).toArray]++caps)) W1 (CameR S J Jx (k0+upI m A.l i) (m x) W1)) :
  CallsIn Fence.wide 0 Tryz.prog 67 #[A.v,.func (.func g) first caps] W (CameR S J Jx k0 ((A.l.map m).sum) W):=by
 have hr:=hA.row
 obtain⟨p,cap,l⟩:=A
 simp only [Sl.v] at hl hf hr ⊢
 obtain⟨n,hn⟩:∃ n,l.length=n:=⟨_,rfl⟩
 rw [hn] at hl ⊢
 have hall:=upI_all m l n hn
 have hf':=Lib.hid hf
 have hn':=Lib.hid hn
 have hl':=Lib.hid hl
 have hr':=Lib.hid hr
 have hS':=Lib.hid hS
 have hb':=Lib.hid hb
 have hJ':=Lib.hid hJ
 have hall':=Lib.hid hall
 have h0':J (k0+upI m l 0) W:=by rw [upI_zero];exact h0
 have hC':=Lib.hid hC
 clear hf hn hl hr hA hS hb hJ hall h0 hC
 refine callsIn_of_wp Tryz.func67 rfl trivial ?_ rfl
 simp only [Tryz.ntmps67,List.size_toArray,List.length_cons,List.length_nil,Nat.reduceAdd,Nat.reduceSub,Array.replicate_succ,Array.replicate_zero,List.push_toArray,List.append_toArray,List.nil_append,List.cons_append]
 gi_wp2
 gi_loopw [5,6,9] (fun _ _ iv wr=>∃ i:Nat,i≤n∧iv=.int .i64 (i:Int)∧J (k0+upI m l i) wr∧Kr S W wr) (fun _ _ iv _=>n - (intOf iv).toNat)
 case atStart=>exact⟨0,Nat.zero_le _,rfl,h0',Kr.refl _ _⟩
 case round =>
  obtain⟨i,hi,rfl,hJi,hK⟩:=hrel
  by_cases hlt:i < n
  ·obtain⟨a,ha⟩:∃ s,l[i]?=some s:=⟨l[i]'(by rw [hn'.out];exact hlt),List.getElem?_eq_getElem _⟩
   obtain⟨pa,rfl,hcV⟩:=hr'.out i a ha
   have hc:=kr_cells (hw.trans hK) hS'.out hcV
   have hup:=upI_succ m l i a ha
   have a6:=Lib.hid (wr_succ i n hlt hl'.out)
   obtain⟨c0,c1p,c1n,c1c,ea⟩:=hC'.out a
   have d0:=hc.c0 _ (by rw [ea];rfl)
   have d1:=hc.cs 0 _ (by rw [ea];rfl)
   have hJi':=Lib.hid hJi
   have q1:=Lib.hid (fun o:Obj=>hf'.out i a (wr.alloc o) ha (hK.trans (Kr.alloc _ _ o)) (lays_alloc hJ'.out hJi o))
   simp only [ea] at q1
   clear ea
   have ha':=Lib.hid ha
   clear hcV hc ha hJi
   gi_wp2
   refine⟨trivial,?_⟩
   gi_wp2
   refine⟨rfl,CallsIn.mono (calls_wide (q1.out _)) ?_⟩
   rintro e w' (⟨rfl,hJ2,hk2⟩ | ⟨rfl,hx⟩)
   ·gi_wp2
    go_roundw
    case rel=>exact⟨i+1,hlt,congrArg (Value.int .i64) a6.out,by rw [hup,← Nat.add_assoc];exact hJ2,(hK.trans (Kr.alloc _ _ _)).trans hk2⟩
    case measure=>exact step_less i n hlt a6.out
   ·gi_wp2
    go_ret
    exact .inr ⟨rfl,hx⟩
  ·obtain rfl:i=n:=by omega
   have hJi2:=Lib.hid hJi
   clear hlt hi hJi
   gi_wp2
   go_ret
   exact .inl ⟨rfl,by rw [← hall'.out];exact hJi2.out,hK⟩
set_option maxRecDepth 100000 in
set_option maxHeartbeats 8000000 in
theorem eachr_FieldR {α:Type} (cells:α→List Value) (hC:∀ x,shp_Field (cells x)) (m:α→Nat) (g:FuncId) (first caps:Array Value) (K:α→Prop) (S:Bx) (J Jx:Nat→World→Prop) (hJ:Lays J) (w:World) (hS:S.over w.heap.size) (A:Sl α) (hA:A.In w 2 cells K) (hl:A.l.length≤1048576)
  (hent:∀ args w,(callFunc g args).run Tryz.prog w=.ok (.enter g args) w) (k0:Nat) (W:World) (hw:Kr S w W) (hb:∀ b,S.f b→b < W.heap.size) (h0:J k0 W)
  (hf:∀ (i:Nat) (x:α) (W1:World),A.l[i]?=some x→Kr S W W1→J (k0+upI m A.l i) W1→CallsIn Fence.wide 0 Tryz.prog g (first++(#[.int .i64 (i:Int),.agg (cells x).toArray]++caps)) W1 (CameR S J Jx (k0+upI m A.l i) (m x) W1)) :
  CallsIn Fence.wide 0 Tryz.prog 69 #[A.v,.func (.func g) first caps] W (CameR S J Jx k0 ((A.l.map m).sum) W):=by
 have hr:=hA.row
 obtain⟨p,cap,l⟩:=A
 simp only [Sl.v] at hl hf hr ⊢
 obtain⟨n,hn⟩:∃ n,l.length=n:=⟨_,rfl⟩
 rw [hn] at hl ⊢
 have hall:=upI_all m l n hn
 have hf':=Lib.hid hf
 have hn':=Lib.hid hn
 have hl':=Lib.hid hl
 have hr':=Lib.hid hr
 have hS':=Lib.hid hS
 have hb':=Lib.hid hb
 have hJ':=Lib.hid hJ
 have hall':=Lib.hid hall
 have h0':J (k0+upI m l 0) W:=by rw [upI_zero];exact h0
 have hC':=Lib.hid hC
 clear hf hn hl hr hA hS hb hJ hall h0 hC
 refine callsIn_of_wp Tryz.func69 rfl trivial ?_ rfl
 simp only [Tryz.ntmps69,List.size_toArray,List.length_cons,List.length_nil,Nat.reduceAdd,Nat.reduceSub,Array.replicate_succ,Array.replicate_zero,List.push_toArray,List.append_toArray,List.nil_append,List.cons_append]
 gi_wp2
 gi_loopw [5,6,9] (fun _ _ iv wr=>∃ i:Nat,i≤n∧iv=.int .i64 (i:Int)∧J (k0+upI m l i) wr∧Kr S W wr) (fun _ _ iv _=>n - (intOf iv).toNat)
 case atStart=>exact⟨0,Nat.zero_le _,rfl,h0',Kr.refl _ _⟩
 case round =>
  obtain⟨i,hi,rfl,hJi,hK⟩:=hrel
  by_cases hlt:i < n
  ·obtain⟨a,ha⟩:∃ s,l[i]?=some s:=⟨l[i]'(by rw [hn'.out];exact hlt),List.getElem?_eq_getElem _⟩
   obtain⟨pa,rfl,hcV⟩:=hr'.out i a ha
   have hc:=kr_cells (hw.trans hK) hS'.out hcV
   have hup:=upI_succ m l i a ha
   have a6:=Lib.hid (wr_succ i n hlt hl'.out)
   obtain⟨c0,c1,ea⟩:=hC'.out a
   have d0:=hc.c0 _ (by rw [ea];rfl)
   have d1:=hc.cs 0 _ (by rw [ea];rfl)
   have hJi':=Lib.hid hJi
   have q1:=Lib.hid (fun o:Obj=>hf'.out i a (wr.alloc o) ha (hK.trans (Kr.alloc _ _ o)) (lays_alloc hJ'.out hJi o))
   simp only [ea] at q1
   clear ea
   have ha':=Lib.hid ha
   clear hcV hc ha hJi
   gi_wp2
   refine⟨trivial,?_⟩
   gi_wp2
   refine⟨rfl,CallsIn.mono (calls_wide (q1.out _)) ?_⟩
   rintro e w' (⟨rfl,hJ2,hk2⟩ | ⟨rfl,hx⟩)
   ·gi_wp2
    go_roundw
    case rel=>exact⟨i+1,hlt,congrArg (Value.int .i64) a6.out,by rw [hup,← Nat.add_assoc];exact hJ2,(hK.trans (Kr.alloc _ _ _)).trans hk2⟩
    case measure=>exact step_less i n hlt a6.out
   ·gi_wp2
    go_ret
    exact .inr ⟨rfl,hx⟩
  ·obtain rfl:i=n:=by omega
   have hJi2:=Lib.hid hJi
   clear hlt hi hJi
   gi_wp2
   go_ret
   exact .inl ⟨rfl,by rw [← hall'.out];exact hJi2.out,hK⟩
set_option maxRecDepth 100000 in
set_option maxHeartbeats 8000000 in
theorem eachr_StateR {α:Type} (cells:α→List Value) (hC:∀ x,shp_State (cells x)) (m:α→Nat) (g:FuncId) (first caps:Array Value) (K:α→Prop) (S:Bx) (J Jx:Nat→World→Prop) (hJ:Lays J) (w:World) (hS:S.over w.heap.size) (A:Sl α) (hA:A.In w 5 cells K) (hl:A.l.length≤1048576)
  (hent:∀ args w,(callFunc g args).run Tryz.prog w=.ok (.enter g args) w) (k0:Nat) (W:World) (hw:Kr S w W) (hb:∀ b,S.f b→b < W.heap.size) (h0:J k0 W)
  (hf:∀ (i:Nat) (x:α) (W1:World),A.l[i]?=some x→Kr S W W1→J (k0+upI m A.l i) W1→CallsIn Fence.wide 0 Tryz.prog g (first++(#[.int .i64 (i:Int),.agg (cells x).toArray]++caps)) W1 (CameR S J Jx (k0+upI m A.l i) (m x) W1)) :
  CallsIn Fence.wide 0 Tryz.prog 72 #[A.v,.func (.func g) first caps] W (CameR S J Jx k0 ((A.l.map m).sum) W):=by
 have hr:=hA.row
 obtain⟨p,cap,l⟩:=A
 simp only [Sl.v] at hl hf hr ⊢
 obtain⟨n,hn⟩:∃ n,l.length=n:=⟨_,rfl⟩
 rw [hn] at hl ⊢
 have hall:=upI_all m l n hn
 have hf':=Lib.hid hf
 have hn':=Lib.hid hn
 have hl':=Lib.hid hl
 have hr':=Lib.hid hr
 have hS':=Lib.hid hS
 have hb':=Lib.hid hb
 have hJ':=Lib.hid hJ
 have hall':=Lib.hid hall
 have h0':J (k0+upI m l 0) W:=by rw [upI_zero];exact h0
 have hC':=Lib.hid hC
 clear hf hn hl hr hA hS hb hJ hall h0 hC
 refine callsIn_of_wp Tryz.func72 rfl trivial ?_ rfl
 simp only [Tryz.ntmps72,List.size_toArray,List.length_cons,List.length_nil,Nat.reduceAdd,Nat.reduceSub,Array.replicate_succ,Array.replicate_zero,List.push_toArray,List.append_toArray,List.nil_append,List.cons_append]
 gi_wp2
 gi_loopw [5,6,9] (fun _ _ iv wr=>∃ i:Nat,i≤n∧iv=.int .i64 (i:Int)∧J (k0+upI m l i) wr∧Kr S W wr) (fun _ _ iv _=>n - (intOf iv).toNat)
 case atStart=>exact⟨0,Nat.zero_le _,rfl,h0',Kr.refl _ _⟩
 case round =>
  obtain⟨i,hi,rfl,hJi,hK⟩:=hrel
  by_cases hlt:i < n
  ·obtain⟨a,ha⟩:∃ s,l[i]?=some s:=⟨l[i]'(by rw [hn'.out];exact hlt),List.getElem?_eq_getElem _⟩
   obtain⟨pa,rfl,hcV⟩:=hr'.out i a ha
   have hc:=kr_cells (hw.trans hK) hS'.out hcV
   have hup:=upI_succ m l i a ha
   have a6:=Lib.hid (wr_succ i n hlt hl'.out)
   obtain⟨c0,c1p,c1n,c1c,c2,c3p,c3n,c3c,c4p,c4n,c4c,ea⟩:=hC'.out a
   have d0:=hc.c0 _ (by rw [ea];rfl)
   have d1:=hc.cs 0 _ (by rw [ea];rfl)
   have d2:=hc.cs 1 _ (by rw [ea];rfl)
   have d3:=hc.cs 2 _ (by rw [ea];rfl)
   have d4:=hc.cs 3 _ (by rw [ea];rfl)
   have hJi':=Lib.hid hJi
   have q1:=Lib.hid (fun o:Obj=>hf'.out i a (wr.alloc o) ha (hK.trans (Kr.alloc _ _ o)) (lays_alloc hJ'.out hJi o))
   simp only [ea] at q1
   clear ea
   have ha':=Lib.hid ha
   clear hcV hc ha hJi
   gi_wp2
   refine⟨trivial,?_⟩
   gi_wp2
   refine⟨rfl,CallsIn.mono (calls_wide (q1.out _)) ?_⟩
   rintro e w' (⟨rfl,hJ2,hk2⟩ | ⟨rfl,hx⟩)
   ·gi_wp2
    go_roundw
    case rel=>exact⟨i+1,hlt,congrArg (Value.int .i64) a6.out,by rw [hup,← Nat.add_assoc];exact hJ2,(hK.trans (Kr.alloc _ _ _)).trans hk2⟩
    case measure=>exact step_less i n hlt a6.out
   ·gi_wp2
    go_ret
    exact .inr ⟨rfl,hx⟩
  ·obtain rfl:i=n:=by omega
   have hJi2:=Lib.hid hJi
   clear hlt hi hJi
   gi_wp2
   go_ret
   exact .inl ⟨rfl,by rw [← hall'.out];exact hJi2.out,hK⟩
set_option maxRecDepth 100000 in
set_option maxHeartbeats 8000000 in
theorem eachr_ActionR {α:Type} (cells:α→List Value) (hC:∀ x,shp_Action (cells x)) (m:α→Nat) (g:FuncId) (first caps:Array Value) (K:α→Prop) (S:Bx) (J Jx:Nat→World→Prop) (hJ:Lays J) (w:World) (hS:S.over w.heap.size) (A:Sl α) (hA:A.In w 3 cells K) (hl:A.l.length≤1048576)
  (hent:∀ args w,(callFunc g args).run Tryz.prog w=.ok (.enter g args) w) (k0:Nat) (W:World) (hw:Kr S w W) (hb:∀ b,S.f b→b < W.heap.size) (h0:J k0 W)
  (hf:∀ (i:Nat) (x:α) (W1:World),A.l[i]?=some x→Kr S W W1→J (k0+upI m A.l i) W1→CallsIn Fence.wide 0 Tryz.prog g (first++(#[.int .i64 (i:Int),.agg (cells x).toArray]++caps)) W1 (CameR S J Jx (k0+upI m A.l i) (m x) W1)) :
  CallsIn Fence.wide 0 Tryz.prog 74 #[A.v,.func (.func g) first caps] W (CameR S J Jx k0 ((A.l.map m).sum) W):=by
 have hr:=hA.row
 obtain⟨p,cap,l⟩:=A
 simp only [Sl.v] at hl hf hr ⊢
 obtain⟨n,hn⟩:∃ n,l.length=n:=⟨_,rfl⟩
 rw [hn] at hl ⊢
 have hall:=upI_all m l n hn
 have hf':=Lib.hid hf
 have hn':=Lib.hid hn
 have hl':=Lib.hid hl
 have hr':=Lib.hid hr
 have hS':=Lib.hid hS
 have hb':=Lib.hid hb
 have hJ':=Lib.hid hJ
 have hall':=Lib.hid hall
 have h0':J (k0+upI m l 0) W:=by rw [upI_zero];exact h0
 have hC':=Lib.hid hC
 clear hf hn hl hr hA hS hb hJ hall h0 hC
 refine callsIn_of_wp Tryz.func74 rfl trivial ?_ rfl
 simp only [Tryz.ntmps74,List.size_toArray,List.length_cons,List.length_nil,Nat.reduceAdd,Nat.reduceSub,Array.replicate_succ,Array.replicate_zero,List.push_toArray,List.append_toArray,List.nil_append,List.cons_append]
 gi_wp2
 gi_loopw [5,6,9] (fun _ _ iv wr=>∃ i:Nat,i≤n∧iv=.int .i64 (i:Int)∧J (k0+upI m l i) wr∧Kr S W wr) (fun _ _ iv _=>n - (intOf iv).toNat)
 case atStart=>exact⟨0,Nat.zero_le _,rfl,h0',Kr.refl _ _⟩
 case round =>
  obtain⟨i,hi,rfl,hJi,hK⟩:=hrel
  by_cases hlt:i < n
  ·obtain⟨a,ha⟩:∃ s,l[i]?=some s:=⟨l[i]'(by rw [hn'.out];exact hlt),List.getElem?_eq_getElem _⟩
   obtain⟨pa,rfl,hcV⟩:=hr'.out i a ha
   have hc:=kr_cells (hw.trans hK) hS'.out hcV
   have hup:=upI_succ m l i a ha
   have a6:=Lib.hid (wr_succ i n hlt hl'.out)
   obtain⟨c0,c1p,c1n,c1c,c2p,c2n,c2c,ea⟩:=hC'.out a
   have d0:=hc.c0 _ (by rw [ea];rfl)
   have d1:=hc.cs 0 _ (by rw [ea];rfl)
   have d2:=hc.cs 1 _ (by rw [ea];rfl)
   have hJi':=Lib.hid hJi
   have q1:=Lib.hid (fun o:Obj=>hf'.out i a (wr.alloc o) ha (hK.trans (Kr.alloc _ _ o)) (lays_alloc hJ'.out hJi o))
   simp only [ea] at q1
   clear ea
   have ha':=Lib.hid ha
   clear hcV hc ha hJi
   gi_wp2
   refine⟨trivial,?_⟩
   gi_wp2
   refine⟨rfl,CallsIn.mono (calls_wide (q1.out _)) ?_⟩
   rintro e w' (⟨rfl,hJ2,hk2⟩ | ⟨rfl,hx⟩)
   ·gi_wp2
    go_roundw
    case rel=>exact⟨i+1,hlt,congrArg (Value.int .i64) a6.out,by rw [hup,← Nat.add_assoc];exact hJ2,(hK.trans (Kr.alloc _ _ _)).trans hk2⟩
    case measure=>exact step_less i n hlt a6.out
   ·gi_wp2
    go_ret
    exact .inr ⟨rfl,hx⟩
  ·obtain rfl:i=n:=by omega
   have hJi2:=Lib.hid hJi
   clear hlt hi hJi
   gi_wp2
   go_ret
   exact .inl ⟨rfl,by rw [← hall'.out];exact hJi2.out,hK⟩
set_option maxRecDepth 100000 in
set_option maxHeartbeats 8000000 in
theorem eachr_TableR {α:Type} (cells:α→List Value) (hC:∀ x,shp_Table (cells x)) (m:α→Nat) (g:FuncId) (first caps:Array Value) (K:α→Prop) (S:Bx) (J Jx:Nat→World→Prop) (hJ:Lays J) (w:World) (hS:S.over w.heap.size) (A:Sl α) (hA:A.In w 5 cells K) (hl:A.l.length≤1048576)
  (hent:∀ args w,(callFunc g args).run Tryz.prog w=.ok (.enter g args) w) (k0:Nat) (W:World) (hw:Kr S w W) (hb:∀ b,S.f b→b < W.heap.size) (h0:J k0 W)
  (hf:∀ (i:Nat) (x:α) (W1:World),A.l[i]?=some x→Kr S W W1→J (k0+upI m A.l i) W1→CallsIn Fence.wide 0 Tryz.prog g (first++(#[.int .i64 (i:Int),.agg (cells x).toArray]++caps)) W1 (CameR S J Jx (k0+upI m A.l i) (m x) W1)) :
  CallsIn Fence.wide 0 Tryz.prog 76 #[A.v,.func (.func g) first caps] W (CameR S J Jx k0 ((A.l.map m).sum) W):=by
 have hr:=hA.row
 obtain⟨p,cap,l⟩:=A
 simp only [Sl.v] at hl hf hr ⊢
 obtain⟨n,hn⟩:∃ n,l.length=n:=⟨_,rfl⟩
 rw [hn] at hl ⊢
 have hall:=upI_all m l n hn
 have hf':=Lib.hid hf
 have hn':=Lib.hid hn
 have hl':=Lib.hid hl
 have hr':=Lib.hid hr
 have hS':=Lib.hid hS
 have hb':=Lib.hid hb
 have hJ':=Lib.hid hJ
 have hall':=Lib.hid hall
 have h0':J (k0+upI m l 0) W:=by rw [upI_zero];exact h0
 have hC':=Lib.hid hC
 clear hf hn hl hr hA hS hb hJ hall h0 hC
 refine callsIn_of_wp Tryz.func76 rfl trivial ?_ rfl
 simp only [Tryz.ntmps76,List.size_toArray,List.length_cons,List.length_nil,Nat.reduceAdd,Nat.reduceSub,Array.replicate_succ,Array.replicate_zero,List.push_toArray,List.append_toArray,List.nil_append,List.cons_append]
 gi_wp2
 gi_loopw [5,6,9] (fun _ _ iv wr=>∃ i:Nat,i≤n∧iv=.int .i64 (i:Int)∧J (k0+upI m l i) wr∧Kr S W wr) (fun _ _ iv _=>n - (intOf iv).toNat)
 case atStart=>exact⟨0,Nat.zero_le _,rfl,h0',Kr.refl _ _⟩
 case round =>
  obtain⟨i,hi,rfl,hJi,hK⟩:=hrel
  by_cases hlt:i < n
  ·obtain⟨a,ha⟩:∃ s,l[i]?=some s:=⟨l[i]'(by rw [hn'.out];exact hlt),List.getElem?_eq_getElem _⟩
   obtain⟨pa,rfl,hcV⟩:=hr'.out i a ha
   have hc:=kr_cells (hw.trans hK) hS'.out hcV
   have hup:=upI_succ m l i a ha
   have a6:=Lib.hid (wr_succ i n hlt hl'.out)
   obtain⟨c0,c1p,c1n,c1c,c2p,c2n,c2c,c3,c4p,c4n,c4c,ea⟩:=hC'.out a
   have d0:=hc.c0 _ (by rw [ea];rfl)
   have d1:=hc.cs 0 _ (by rw [ea];rfl)
   have d2:=hc.cs 1 _ (by rw [ea];rfl)
   have d3:=hc.cs 2 _ (by rw [ea];rfl)
   have d4:=hc.cs 3 _ (by rw [ea];rfl)
   have hJi':=Lib.hid hJi
   have q1:=Lib.hid (fun o:Obj=>hf'.out i a (wr.alloc o) ha (hK.trans (Kr.alloc _ _ o)) (lays_alloc hJ'.out hJi o))
   simp only [ea] at q1
   clear ea
   have ha':=Lib.hid ha
   clear hcV hc ha hJi
   gi_wp2
   refine⟨trivial,?_⟩
   gi_wp2
   refine⟨rfl,CallsIn.mono (calls_wide (q1.out _)) ?_⟩
   rintro e w' (⟨rfl,hJ2,hk2⟩ | ⟨rfl,hx⟩)
   ·gi_wp2
    go_roundw
    case rel=>exact⟨i+1,hlt,congrArg (Value.int .i64) a6.out,by rw [hup,← Nat.add_assoc];exact hJ2,(hK.trans (Kr.alloc _ _ _)).trans hk2⟩
    case measure=>exact step_less i n hlt a6.out
   ·gi_wp2
    go_ret
    exact .inr ⟨rfl,hx⟩
  ·obtain rfl:i=n:=by omega
   have hJi2:=Lib.hid hJi
   clear hlt hi hJi
   gi_wp2
   go_ret
   exact .inl ⟨rfl,by rw [← hall'.out];exact hJi2.out,hK⟩
set_option maxRecDepth 100000 in
set_option maxHeartbeats 8000000 in
theorem eachr_StmtR {α:Type} (cells:α→List Value) (hC:∀ x,shp_Stmt (cells x)) (m:α→Nat) (g:FuncId) (first caps:Array Value) (K:α→Prop) (S:Bx) (J Jx:Nat→World→Prop) (hJ:Lays J) (w:World) (hS:S.over w.heap.size) (A:Sl α) (hA:A.In w 14 cells K) (hl:A.l.length≤1048576)
  (hent:∀ args w,(callFunc g args).run Tryz.prog w=.ok (.enter g args) w) (k0:Nat) (W:World) (hw:Kr S w W) (hb:∀ b,S.f b→b < W.heap.size) (h0:J k0 W)
  (hf:∀ (i:Nat) (x:α) (W1:World),A.l[i]?=some x→Kr S W W1→J (k0+upI m A.l i) W1→CallsIn Fence.wide 0 Tryz.prog g (first++(#[.int .i64 (i:Int),.agg (cells x).toArray]++caps)) W1 (CameR S J Jx (k0+upI m A.l i) (m x) W1)) :
  CallsIn Fence.wide 0 Tryz.prog 145 #[A.v,.func (.func g) first caps] W (CameR S J Jx k0 ((A.l.map m).sum) W):=by
 have hr:=hA.row
 obtain⟨p,cap,l⟩:=A
 simp only [Sl.v] at hl hf hr ⊢
 obtain⟨n,hn⟩:∃ n,l.length=n:=⟨_,rfl⟩
 rw [hn] at hl ⊢
 have hall:=upI_all m l n hn
 have hf':=Lib.hid hf
 have hn':=Lib.hid hn
 have hl':=Lib.hid hl
 have hr':=Lib.hid hr
 have hS':=Lib.hid hS
 have hb':=Lib.hid hb
 have hJ':=Lib.hid hJ
 have hall':=Lib.hid hall
 have h0':J (k0+upI m l 0) W:=by rw [upI_zero];exact h0
 have hC':=Lib.hid hC
 clear hf hn hl hr hA hS hb hJ hall h0 hC
 refine callsIn_of_wp Tryz.func145 rfl trivial ?_ rfl
 simp only [Tryz.ntmps145,List.size_toArray,List.length_cons,List.length_nil,Nat.reduceAdd,Nat.reduceSub,Array.replicate_succ,Array.replicate_zero,List.push_toArray,List.append_toArray,List.nil_append,List.cons_append]
 gi_wp2
 gi_loopw [5,6,9] (fun _ _ iv wr=>∃ i:Nat,i≤n∧iv=.int .i64 (i:Int)∧J (k0+upI m l i) wr∧Kr S W wr) (fun _ _ iv _=>n - (intOf iv).toNat)
 case atStart=>exact⟨0,Nat.zero_le _,rfl,h0',Kr.refl _ _⟩
 case round =>
  obtain⟨i,hi,rfl,hJi,hK⟩:=hrel
  by_cases hlt:i < n
  ·obtain⟨a,ha⟩:∃ s,l[i]?=some s:=⟨l[i]'(by rw [hn'.out];exact hlt),List.getElem?_eq_getElem _⟩
   obtain⟨pa,rfl,hcV⟩:=hr'.out i a ha
   have hc:=kr_cells (hw.trans hK) hS'.out hcV
   have hup:=upI_succ m l i a ha
   have a6:=Lib.hid (wr_succ i n hlt hl'.out)
   obtain⟨c0,c1,c2,c3,c4,c5,c6,c7,c8,c9,c10,c11p,c11n,c11c,c12p,c12n,c12c,c13p,c13n,c13c,ea⟩:=hC'.out a
   have d0:=hc.c0 _ (by rw [ea];rfl)
   have d1:=hc.cs 0 _ (by rw [ea];rfl)
   have d2:=hc.cs 1 _ (by rw [ea];rfl)
   have d3:=hc.cs 2 _ (by rw [ea];rfl)
   have d4:=hc.cs 3 _ (by rw [ea];rfl)
   have d5:=hc.cs 4 _ (by rw [ea];rfl)
   have d6:=hc.cs 5 _ (by rw [ea];rfl)
   have d7:=hc.cs 6 _ (by rw [ea];rfl)
   have d8:=hc.cs 7 _ (by rw [ea];rfl)
   have d9:=hc.cs 8 _ (by rw [ea];rfl)
   have d10:=hc.cs 9 _ (by rw [ea];rfl)
   have d11:=hc.cs 10 _ (by rw [ea];rfl)
   have d12:=hc.cs 11 _ (by rw [ea];rfl)
   have d13:=hc.cs 12 _ (by rw [ea];rfl)
   have hJi':=Lib.hid hJi
   have q1:=Lib.hid (fun o:Obj=>hf'.out i a (wr.alloc o) ha (hK.trans (Kr.alloc _ _ o)) (lays_alloc hJ'.out hJi o))
   simp only [ea] at q1
   clear ea
   have ha':=Lib.hid ha
   clear hcV hc ha hJi
   gi_wp2
   refine⟨trivial,?_⟩
   gi_wp2
   refine⟨rfl,CallsIn.mono (calls_wide (q1.out _)) ?_⟩
   rintro e w' (⟨rfl,hJ2,hk2⟩ | ⟨rfl,hx⟩)
   ·gi_wp2
    go_roundw
    case rel=>exact⟨i+1,hlt,congrArg (Value.int .i64) a6.out,by rw [hup,← Nat.add_assoc];exact hJ2,(hK.trans (Kr.alloc _ _ _)).trans hk2⟩
    case measure=>exact step_less i n hlt a6.out
   ·gi_wp2
    go_ret
    exact .inr ⟨rfl,hx⟩
  ·obtain rfl:i=n:=by omega
   have hJi2:=Lib.hid hJi
   clear hlt hi hJi
   gi_wp2
   go_ret
   exact .inl ⟨rfl,by rw [← hall'.out];exact hJi2.out,hK⟩
set_option maxRecDepth 100000 in
set_option maxHeartbeats 8000000 in
theorem eachr_stringR (m:ByteArray→Nat) (g:FuncId) (first caps:Array Value) (K:ByteArray→Prop) (S:Bx) (J Jx:Nat→World→Prop) (hJ:Lays J) (w:World) (hS:S.over w.heap.size) (A:Sl ByteArray) (hA:A.In w 1 strCells K) (hl:A.l.length≤1048576)
  (hent:∀ args w,(callFunc g args).run Tryz.prog w=.ok (.enter g args) w) (k0:Nat) (W:World) (hw:Kr S w W) (hb:∀ b,S.f b→b < W.heap.size) (h0:J k0 W)
  (hf:∀ (i:Nat) (x:ByteArray) (W1:World),A.l[i]?=some x→Kr S W W1→J (k0+upI m A.l i) W1→CallsIn Fence.wide 0 Tryz.prog g (first++(#[.int .i64 (i:Int),.string x]++caps)) W1 (CameR S J Jx (k0+upI m A.l i) (m x) W1)) :
  CallsIn Fence.wide 0 Tryz.prog 79 #[A.v,.func (.func g) first caps] W (CameR S J Jx k0 ((A.l.map m).sum) W):=by
 have hr:=hA.row
 obtain⟨p,cap,l⟩:=A
 simp only [Sl.v] at hl hf hr ⊢
 obtain⟨n,hn⟩:∃ n,l.length=n:=⟨_,rfl⟩
 rw [hn] at hl ⊢
 have hall:=upI_all m l n hn
 have hf':=Lib.hid hf
 have hn':=Lib.hid hn
 have hl':=Lib.hid hl
 have hr':=Lib.hid hr
 have hS':=Lib.hid hS
 have hb':=Lib.hid hb
 have hJ':=Lib.hid hJ
 have hall':=Lib.hid hall
 have h0':J (k0+upI m l 0) W:=by rw [upI_zero];exact h0
 clear hf hn hl hr hA hS hb hJ hall h0
 refine callsIn_of_wp Tryz.func79 rfl trivial ?_ rfl
 simp only [Tryz.ntmps79,List.size_toArray,List.length_cons,List.length_nil,Nat.reduceAdd,Nat.reduceSub,Array.replicate_succ,Array.replicate_zero,List.push_toArray,List.append_toArray,List.nil_append,List.cons_append]
 gi_wp2
 gi_loopw [5,6,9] (fun _ _ iv wr=>∃ i:Nat,i≤n∧iv=.int .i64 (i:Int)∧J (k0+upI m l i) wr∧Kr S W wr) (fun _ _ iv _=>n - (intOf iv).toNat)
 case atStart=>exact⟨0,Nat.zero_le _,rfl,h0',Kr.refl _ _⟩
 case round =>
  obtain⟨i,hi,rfl,hJi,hK⟩:=hrel
  by_cases hlt:i < n
  ·obtain⟨a,ha⟩:∃ s,l[i]?=some s:=⟨l[i]'(by rw [hn'.out];exact hlt),List.getElem?_eq_getElem _⟩
   obtain⟨pa,rfl,hcV⟩:=hr'.out i a ha
   have hc:=kr_cells (hw.trans hK) hS'.out hcV
   have hup:=upI_succ m l i a ha
   have a6:=Lib.hid (wr_succ i n hlt hl'.out)
   have d0:=hc.c0 _ rfl
   simp only [Nat.mul_one] at d0
   have hJi':=Lib.hid hJi
   have q1:=Lib.hid (hf'.out i a wr ha hK hJi)
   have ha':=Lib.hid ha
   clear hcV hc ha hJi
   gi_wp2
   refine⟨trivial,?_⟩
   gi_wp2
   refine⟨rfl,CallsIn.mono (calls_wide q1.out) ?_⟩
   rintro e w' (⟨rfl,hJ2,hk2⟩ | ⟨rfl,hx⟩)
   ·gi_wp2
    go_roundw
    case rel=>exact⟨i+1,hlt,congrArg (Value.int .i64) a6.out,by rw [hup,← Nat.add_assoc];exact hJ2,hK.trans hk2⟩
    case measure=>exact step_less i n hlt a6.out
   ·gi_wp2
    go_ret
    exact .inr ⟨rfl,hx⟩
  ·obtain rfl:i=n:=by omega
   have hJi2:=Lib.hid hJi
   clear hlt hi hJi
   gi_wp2
   go_ret
   exact .inl ⟨rfl,by rw [← hall'.out];exact hJi2.out,hK⟩
end Go.Proofs.YtobhijbncchpiaaGreat
