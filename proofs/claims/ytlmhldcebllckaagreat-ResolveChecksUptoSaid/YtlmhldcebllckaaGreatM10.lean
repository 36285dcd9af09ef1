/-
  WHAT IS PROVED HERE: a part of the proof (made narrower and merged by program; the parts: Zk Zl).
-/
import Derived.Test.YtlmhldcebllckaaGreatRows
import Derived.RangeFuncNested
import Derived.RangeFuncBound
import Derived.RangeFuncCalls
import Derived.RangeFuncLeaves
import Derived.Shelf.Abstract
import Derived.WalkKit
import Derived.OwnWalkIn
import Derived.TacticsInMore
import Derived.LoopNIn
import Derived.LoopIn
import Derived.Test.YtlmhldcebllckaaGreatM9
namespace Go.Proofs.YtlmhldcebllckaaGreat
open Go.RowKit Go.Shelf
/-- Whatever cell stood in a block that is none of S stands as it stood. -/
structure Kq (S:Nat → Prop) (W W':World):Prop where
 size:W.heap.size ≤ W'.heap.size
 cell:∀ a v,¬ S a.block → W.cell? a = some v → W'.cell? a = some v
 low:∀ B,B ≤ W.heap.size → (∀ b,S b → B ≤ b) → Below B W W'
theorem Kq.refl (S:Nat → Prop) (W:World):Kq S W W:=⟨Nat.le_refl _,fun _ _ _ h=>h,fun B _ _=>Below.refl B W⟩
theorem Kq.trans {S:Nat → Prop} {A B C:World} (h:Kq S A B) (k:Kq S B C):Kq S A C:=⟨Nat.le_trans h.size k.size,fun a v hs hv=>k.cell a v hs (h.cell a v hs hv),fun b hb hs=>(h.low b hb hs).trans (k.low b (Nat.le_trans hb h.size) hs)⟩
theorem Kq.plus (S:Nat → Prop) (W:World) (y:Ext):Kq S W (plus W y):=⟨by have:=size_plus W y;omega,fun _ _ _ h=>cell_keep h y,fun _ hb _=>(below_plus W y).mono hb⟩
theorem Kq.alloc (S:Nat → Prop) (W:World) (o:Obj):Kq S W (W.alloc o):=⟨by simp,fun _ _ _ h=>cell_alloc h o,fun B hb _=>(Below.refl B W).alloc hb o⟩
theorem Kq.setCell {S:Nat → Prop} (W:World) (p:Addr) (v:Value) (h:S p.block):Kq S W (W.setCell p v):=⟨by rw [World.size_setCell];exact Nat.le_refl _,fun a u hs hv=>(World.cell?_setCell_other _ _ _ _ (fun e=>hs (by first | (rw [e];exact h) | (rw [← e];exact h)))).trans hv,fun B _ hs=>(Below.refl B W).setCell (hs _ h) v⟩
section
variable {S:Nat → Prop} {w W:World} (hk:Kq S w W) (hS:∀ b,S b → w.heap.size ≤ b)
include hk hS
theorem kq_cell {a:Addr} {v:Value} (h:w.cell? a = some v):W.cell? a = some v:=hk.cell a v (fun hs=>by
 have h1:=hS _ hs
 have h2:=World.block_lt_of_cell? w a h
 omega) h
theorem kq_cells {a:Addr} {cs:List Value} (h:CellsAt w a cs):CellsAt W a cs:=fun j v hj=>kq_cell hk hS (h j v hj)
theorem kq_row {α:Type} {C:Nat} {cells:α → List Value} {p:Option Addr} {l:List α} (h:RowAt w C cells p l):RowAt W C cells p l:=fun i y hi=>by
 obtain ⟨a,ha,hc⟩:=h i y hi
 exact ⟨a,ha,kq_cells hk hS hc⟩
theorem kq_sl {α:Type} {C:Nat} {cells:α → List Value} {In In':α → Prop} {s:Sl α} (h:s.In w C cells In) (hi:∀ y,In y → In' y):s.In W C cells In' :=
 ⟨h.len,h.cap,kq_row hk hS h.row,fun y hy=>hi y (h.kids y hy)⟩
theorem kq_ex:∀ {e:Ex},e.In w → e.In W:=fun {e} h=>by
 induction h with
 | mk e op lit hi lo hd nm len cap row _ ih=>exact .mk e op lit hi lo hd nm len cap (kq_row hk hS row) ih
omit hk hS in
theorem kq_fd {x:Fd} (h:x.In w):x.In W:=⟨h.name,h.w⟩
theorem kq_hr {x:Hr} (h:x.In w):x.In W:=⟨h.name,kq_sl hk hS h.fields (fun _ a=>kq_fd a)⟩
omit hk hS in
theorem kq_se {x:Se} (h:x.In w):x.In W:=⟨h.kind,h.v,h.m⟩
theorem kq_ca {x:Ca} (h:x.In w):x.In W:=⟨h.dflt,kq_sl hk hS h.sets (fun _ a=>kq_se a),h.to⟩
theorem kq_sa {x:Sa} (h:x.In w):x.In W:=⟨h.name,kq_sl hk hS h.takes (fun _ a=>a),h.to,kq_sl hk hS h.keys (fun _ a=>kq_ex hk hS a),kq_sl hk hS h.cases (fun _ a=>kq_ca hk hS a)⟩
theorem kq_st:∀ {s:St},s.In w → s.In W:=fun {s} h=>by
 induction h with
 | mk s k hd nm e l c r _ l2 c2 r2 _ ih ih2=>exact .mk s k hd nm (kq_ex hk hS e) l c (kq_row hk hS r) ih l2 c2 (kq_row hk hS r2) ih2
theorem kq_ac {x:Ac} (h:x.In w):x.In W:=⟨h.name,kq_sl hk hS h.params (fun _ a=>kq_fd a),kq_sl hk hS h.body (fun _ a=>kq_st hk hS a)⟩
theorem kq_ke {x:Ke} (h:x.In w):x.In W:=⟨kq_ex hk hS h.e,h.kind⟩
theorem kq_cl {x:Cl} (h:x.In w):x.In W:=⟨h.name,kq_sl hk hS h.args (fun _ a=>a)⟩
theorem kq_ta {x:Ta} (h:x.In w):x.In W:=⟨h.name,kq_sl hk hS h.keys (fun _ a=>kq_ke hk hS a),kq_sl hk hS h.actions (fun _ a=>a),kq_cl hk hS h.dflt⟩
theorem kq_pr {x:Pr} (h:x.In w):x.In W:=⟨kq_sl hk hS h.headers (fun _ a=>kq_hr hk hS a),kq_sl hk hS h.metas (fun _ a=>kq_fd a),kq_sl hk hS h.states (fun _ a=>kq_sa hk hS a),kq_sl hk hS h.actions (fun _ a=>kq_ac hk hS a),kq_sl hk hS h.tables (fun _ a=>kq_ta hk hS a),kq_sl hk hS h.control (fun _ a=>kq_st hk hS a),kq_sl hk hS h.emit (fun _ a=>a)⟩
end
/-- A part of an iterator has been called when k items had come: m more have come, in their order; or a round has said 'no more'. -/
def Came (S:Nat → Prop) (J Jx:Nat → World → Prop) (k m:Nat) (W:World) (e:Ending) (W':World):Prop :=
 (e = .returned (.bool true) ∧ J (k + m) W' ∧ Kq S W W') ∨ (e = .returned (.bool false) ∧ ∃ i,Jx i W')
def Lays (J:Nat → World → Prop):Prop:=∀ k W y,J k W → J k (plus W y)
/-- A round is asked of the item that comes next, and of no other. -/
def Next {α:Type} (P:Program) (l:Nat) (encs:α → Value) (xs:List α) (S:Nat → Prop) (J Jx:Nat → World → Prop):Prop :=
 ∀ (k:Nat) (x:α) (W:World),xs[k]? = some x → J k W → YieldAt Fence.wide 0 P l #[encs x] W (Came S J Jx k 1 W)
theorem round_wide {m m':Nat} {P:Program} {l:Nat} {f:FuncId} {tmps:Array Value} {assign body:Code} {w:World} {R:Ending → World → Prop} (h:RoundIn Fence.wide m P l f tmps assign body w R):RoundIn Fence.wide m' P l f tmps assign body w R :=
 ⟨h.1,fun c cs _=>h.2 c cs (room_wide _)⟩
theorem calls_wide {m m':Nat} {P:Program} {f:FuncId} {args:Array Value} {w:World} {R:Ending → World → Prop} (h:CallsIn Fence.wide m P f args w R):CallsIn Fence.wide m' P f args w R:=callsIn_wide.2 (callsIn_wide.1 h)
theorem hdd (k:Nat):Fence.wide.depth.isSome = true → 1 ≤ k:=fun h=>by cases h
end Go.Proofs.YtlmhldcebllckaaGreat
namespace Go.Proofs.YtlmhldcebllckaaGreat
open Go.RowKit Go.Shelf
attribute [local go_sem] Oper.semAt_some
/-- An item that is no statement. -/
def itV (kind a b:Int):Value:=.agg #[.int .u8 kind,.int .i64 a,.int .i64 b,.int .u8 0,.string ⟨#[]⟩,.string ⟨#[]⟩,.int .u8 0,.int .i64 0,.int .u64 0,.int .u64 0,.string ⟨#[]⟩,.string ⟨#[]⟩,.int .i64 0,.int .i64 0,.slice none 0 0,.slice none 0 0,.slice none 0 0]
abbrev yv (l:Nat):Value:=.func (.yield l) #[] #[]
set_option maxRecDepth 100000 in
set_option maxHeartbeats 4000000 in
theorem one_in (l:Nat) (kind a:Int) (S:Nat → Prop) (J Jx:Nat → World → Prop) (k:Nat) (W:World) (hy:YieldAt Fence.wide 0 Tryz.prog l #[itV kind a 0] W (Came S J Jx k 1 W)) :
  CallsIn Fence.wide 0 Tryz.prog 53 #[yv l,.int .u8 kind,.int .i64 a] W (Came S J Jx k 1 W):=by
 obtain ⟨fn,tmps,assign,body,hy,hR⟩:=hy
 unfold itV at hy
 refine callsIn_of_wp Tryz.func53 rfl trivial ?_ rfl
 simp only [Tryz.ntmps53,List.size_toArray,List.length_cons,List.length_nil,Nat.reduceAdd,Nat.reduceSub,Array.replicate_succ,Array.replicate_zero,List.push_toArray,List.append_toArray,List.nil_append,List.cons_append]
 gi_wp2
 refine ⟨rfl,(round_wide hR).mono ?_⟩
 rintro e w' (⟨rfl,hJ,hk⟩ | ⟨rfl,hx⟩)
 ·gi_wp2
  go_ret
  exact .inl ⟨rfl,hJ,hk⟩
 ·gi_wp2
  go_ret
  exact .inr ⟨rfl,hx⟩
set_option maxRecDepth 100000 in
set_option maxHeartbeats 8000000 in
theorem parts_in (l:Nat) (kind a:Int) (n:Nat) (hn:n ≤ 1048576) (S:Nat → Prop) (J Jx:Nat → World → Prop) (k:Nat) (W:World) (hy:∀ j W1,j < n → J (k + j) W1 → YieldAt Fence.wide 0 Tryz.prog l #[itV kind a (j:Int)] W1 (Came S J Jx (k + j) 1 W1)) (h0:J k W) :
  CallsIn Fence.wide 0 Tryz.prog 104 #[yv l,.int .u8 kind,.int .i64 a,.int .i64 (n:Int)] W (Came S J Jx k n W):=by
 have hy':=Lib.hid hy
 have hn':=Lib.hid hn
 clear hy hn
 refine callsIn_of_wp Tryz.func104 rfl trivial ?_ rfl
 simp only [Tryz.ntmps104,List.size_toArray,List.length_cons,List.length_nil,Nat.reduceAdd,Nat.reduceSub,Array.replicate_succ,Array.replicate_zero,List.push_toArray,List.append_toArray,List.nil_append,List.cons_append]
 gi_wp2
 gi_loopw [9,11] (fun _ iv wr=>∃ j:Nat,j ≤ n ∧ iv = .int .i64 (j:Int) ∧ J (k + j) wr ∧ Kq S W wr) (fun _ iv _=>n - (intOf iv).toNat)
 case atStart=>exact ⟨0,Nat.zero_le _,rfl,h0,Kq.refl _ _⟩
 case round =>
  obtain ⟨j,hj,rfl,hJ,hK⟩:=hrel
  by_cases hlt:j < n
  ·obtain ⟨fn,tmps,assign,body,hy,hR⟩:=hy'.out j wr hlt hJ
   unfold itV at hy
   have a6:=Lib.hid (wr_succ j n hlt hn'.out)
   have hR':=Lib.hid hR
   clear hR
   gi_wp2
   refine ⟨rfl,(round_wide hR'.out).mono ?_⟩
   rintro e w' (⟨rfl,hJ2,hk2⟩ | ⟨rfl,hx⟩)
   ·gi_wp2
    go_roundw
    case rel=>exact ⟨j + 1,hlt,congrArg (Value.int .i64) a6.out,hJ2,hK.trans hk2⟩
    case measure=>exact step_less j n hlt a6.out
   ·gi_wp2
    go_ret
    exact .inr ⟨rfl,hx⟩
  ·obtain rfl:j = n:=by omega
   clear hlt hj
   gi_wp2
   go_ret
   exact .inl ⟨rfl,hJ,hK⟩
end Go.Proofs.YtlmhldcebllckaaGreat
