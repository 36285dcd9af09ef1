/-
  WHAT IS PROVED HERE: a part of the proof (made narrower and merged by program; the parts: Zv Zw Zx Jn Zy).
-/
import Derived.Test.YtlmhldcebllckaaGreatRows
import Derived.WalkKit
import Derived.Lib.Hide
import Derived.WalkSpells
import Derived.WalkLawsBesides
import Derived.Laws.EntriesVeiled
import Derived.Shelf.Abstract
import Derived.Test.YtlmhldcebllckaaGreatM16
import Derived.Test.YtlmhldcebllckaaGreatM47
import Derived.Test.YtlmhldcebllckaaGreatM38
namespace Go.Proofs.YtlmhldcebllckaaGreat
open Go.RowKit Go.Shelf
section
variable {p:Pr} (hall:∀ z ∈ encP p,wrI p z = 0)
include hall
end
end Go.Proofs.YtlmhldcebllckaaGreat
namespace Go.Proofs.YtlmhldcebllckaaGreat
open Go.RowKit Go.Shelf
end Go.Proofs.YtlmhldcebllckaaGreat
namespace Go.Proofs.YtlmhldcebllckaaGreat
open Go.RowKit Go.Shelf
attribute [local go_sem] Oper.semAt_some
def sA:Sa:=⟨⟨#[115]⟩,⟨none,0,[]⟩,⟨#[97,99,99,101,112,116]⟩,⟨none,0,[]⟩,⟨none,0,[]⟩⟩
def prK (b n:Nat):Pr:={ headers:=⟨none,0,[]⟩,metas:=⟨none,0,[]⟩,states:=⟨some ⟨b,0,none⟩,n,List.replicate n sA⟩,actions:=⟨none,0,[]⟩,tables:=⟨none,0,[]⟩,control:=⟨none,0,[]⟩,emit:=⟨none,0,[]⟩ }
theorem enc_prK1 (b:Nat):encP (prK b 1) = [.num 4 0 0,.num 6 0 0]:=by
 unfold encP e6
 rw [show (prK b 1).control.l = [] from rfl,St.encs]
 rfl
theorem enc_prK2 (b:Nat):encP (prK b 2) = [.num 4 0 0,.num 6 0 0,.num 4 1 0,.num 6 1 0]:=by
 unfold encP e6
 rw [show (prK b 2).control.l = [] from rfl,St.encs]
 rfl
theorem may_prK1 (b:Nat):prB (prK b 1) = true:=by
 show (eachB 0 8 hrB [] && (eachB 0 16 fdB [] && (eachB 1 16 saB [sA] && (eachB 0 16 acB [] && (eachB 0 8 taB [] && (St.mayB 8 [] && eachB 0 8 nameB [])))))) = true
 decide +kernel
theorem may_prK2 (b:Nat):prB (prK b 2) = true:=by
 show (eachB 0 8 hrB [] && (eachB 0 16 fdB [] && (eachB 1 16 saB [sA,sA] && (eachB 0 16 acB [] && (eachB 0 8 taB [] && (St.mayB 8 [] && eachB 0 8 nameB [])))))) = true
 decide +kernel
theorem known_vals (b:Nat):chkN (prK b 1) = 2 ∧ chkE (prK b 1) = 0 ∧ chkN (prK b 2) = 2 ∧ chkE (prK b 2) = 8:=by
 unfold chkN chkE
 rw [may_prK1,may_prK2,enc_prK1,enc_prK2]
 refine ⟨by kernel_rfl,by kernel_rfl,by kernel_rfl,by kernel_rfl⟩
theorem at_add2 (b i j:Nat):((⟨b,0,none⟩:Addr).add (i * 5)).add j = ⟨b,i * 5 + j,none⟩:=by
 rw [at_add]
 simp [Addr.add]
theorem sz_prK1 (b:Nat):(prK b 1).sz = 8:=rfl
theorem sz_prK2 (b:Nat):(prK b 2).sz = 16:=rfl
theorem sl_nil {α:Type} (W:World) (C:Nat) (cells:α → List Value) (K:α → Prop):Sl.In W C cells K ⟨none,0,[]⟩ :=
 ⟨Nat.le_refl _,Nat.zero_le _,fun i x h=>by simp at h,fun x h=>by cases h⟩
theorem sA_in (W:World):sA.In W:=⟨by decide,sl_nil _ _ _ _,by decide,sl_nil _ _ _ _,sl_nil _ _ _ _⟩
theorem prK_in (W:World) (b n:Nat) (hn:n ≤ 2) (h:∀ i,i < n → CellsAt W ((⟨b,0,none⟩:Addr).add (i * 5)) sA.cells):(prK b n).In W:=by
 refine ⟨sl_nil _ _ _ _,sl_nil _ _ _ _,⟨by simp [prK],?_,fun i x hx=>⟨_,rfl,?_⟩,fun x hx=>?_⟩,sl_nil _ _ _ _,sl_nil _ _ _ _,sl_nil _ _ _ _,sl_nil _ _ _ _⟩
 ·exact Nat.le_trans hn (by decide)
 ·have hl:=(List.getElem?_eq_some_iff.1 hx).1
  have hm:=List.mem_of_getElem? hx
  obtain rfl:=(List.mem_replicate.1 hm).2
  exact h i (by simpa [prK] using hl)
 ·obtain rfl:=(List.mem_replicate.1 hx).2
  exact sA_in W
set_option maxRecDepth 100000 in
set_option maxHeartbeats 8000000 in
theorem law_known7 (V:World):CallsIn Fence.wide 0 Tryz.prog 6 #[] V fun e w'=>e = .returned (.bool true) ∧ ∃ x,w' = plus V x:=by
 refine callsIn_of_wp Tryz.func6 rfl trivial ?_ rfl
 simp only [Tryz.ntmps6,List.size_toArray,List.length_nil,Nat.reduceSub,Array.replicate_succ,Array.replicate_zero,List.push_toArray,List.append_toArray,List.nil_append,List.cons_append]
 gi_wp2
 obtain ⟨u1,u2,u3,u4⟩:=known_vals (V.heap.size + 1)
 have a1:=cell_new (V.alloc (.cells sA.cells.toArray 52)) sA.cells.toArray 52
 have k1:=calls_self (q_Check (prK (V.heap.size + 1) 1) ((V.alloc (.cells sA.cells.toArray 52)).alloc (.cells sA.cells.toArray 52)) (prK_in _ _ 1 (by decide) (fun i hi j v hj=>by
  obtain rfl:i = 0:=by omega
  rw [at_add2,Nat.zero_mul,Nat.zero_add]
  refine (a1 _ j (by simp)).trans ?_
  simpa using hj)) (by rw [sz_prK1];decide))
 rw [u1,u2] at k1
 refine ⟨trivial,rfl,CallsIn.mono (callsIn_wide.2 k1) ?_⟩
 rintro e U ⟨rfl,x,hU⟩
 obtain ⟨b,hb⟩:∃ b,V.heap.size = b:=⟨_,rfl⟩
 have hs1:U.heap.size = U.heap.size:=rfl
 have hUV:Below b V U:=by
  have q:=((Below.refl V.heap.size V).alloc (Nat.le_refl _) (.cells sA.cells.toArray 52)).alloc (by simp) (.cells sA.cells.toArray 52)
  have q2:=(below_plus ((V.alloc (.cells sA.cells.toArray 52)).alloc (.cells sA.cells.toArray 52)) x).mono (show V.heap.size ≤ _ by simp;omega)
  rw [hU,← hb]
  exact q.trans q2
 have hc:∀ j v,sA.cells[j]? = some v → U.cell? ⟨b,j,none⟩ = some v:=fun j v hj=>by
  rw [hU,← hb]
  exact cell_keep (cell_alloc ((cell_new V _ _ _ j rfl).trans (by simpa using hj)) _) x
 have c0:=hc 0 _ rfl
 have c1:=hc 1 _ rfl
 have c2:=hc 2 _ rfl
 have c3:=hc 3 _ rfl
 have c4:=hc 4 _ rfl
 simp only [sA,Sl.v,List.length_nil] at c0 c1 c2 c3 c4
 rw [hb]
 have hs:b ≤ U.heap.size:=by rw [← hb];exact hUV.size
 have hUV':=Lib.hid hUV
 have u3':=Lib.hid (fun c=>(known_vals c).2.2.1)
 have u4':=Lib.hid (fun c=>(known_vals c).2.2.2)
 have hb':=Lib.hid hb
 have hs':=Lib.hid hs
 clear hU hc hUV k1 a1 u1 u2 u3 u4 hb hs hs1
 gi_wp2
 have a2:=cell_new U (sA.cells++sA.cells).toArray 52
 have k2:=calls_self (q_Check (prK U.heap.size 2) (U.alloc (.cells (sA.cells++sA.cells).toArray 52)) (prK_in _ _ 2 (by decide) (fun i hi j v hj=>by
  rw [at_add2]
  refine (a2 _ _ rfl).trans ?_
  have hj5:j < 5:=(List.getElem?_eq_some_iff.1 hj).1
  rw [List.getElem?_toArray]
  rcases (show i = 0 ∨ i = 1 by omega) with rfl | rfl
  ·rw [Nat.zero_mul,Nat.zero_add,List.getElem?_append_left (by exact hj5)];exact hj
  ·rw [Nat.one_mul,List.getElem?_append_right (by show 5 ≤ _;omega),show 5 + j - sA.cells.length = j from by show 5 + j - 5 = j;omega];exact hj)) (by rw [sz_prK2];decide))
 rw [u3'.out,u4'.out] at k2
 refine ⟨trivial,rfl,CallsIn.mono (callsIn_wide.2 k2) ?_⟩
 rintro e X ⟨rfl,y,hX⟩
 have hVX:Below b V X:=by
  rw [hX]
  exact (hUV'.out.alloc hs'.out _).trans ((below_plus _ y).mono (by simp;have:=hs'.out;omega))
 have hVX':=Lib.hid hVX
 clear hVX hX k2 a2
 gi_wp2
 go_ret
 exact ⟨rfl,plus_of_below (by rw [hb'.out];exact hVX'.out)⟩
end Go.Proofs.YtlmhldcebllckaaGreat
namespace Go.Proofs.YtlmhldcebllckaaGreat
open Go.RowKit Go.Shelf
attribute [local go_sem] Oper.semAt_some
theorem pr_cells (p:Pr):(#[.agg #[.slice p.headers.p p.headers.l.length p.headers.cap,.slice p.metas.p p.metas.l.length p.metas.cap,.slice p.states.p p.states.l.length p.states.cap,.slice p.actions.p p.actions.l.length p.actions.cap,.slice p.tables.p p.tables.l.length p.tables.cap,.slice p.control.p p.control.l.length p.control.cap,.slice p.emit.p p.emit.l.length p.emit.cap]]:Array Value) = #[.agg p.cells.toArray]:=rfl
/-- The world's first new block holds the program. -/
theorem one_box (p:Pr) (V:World) (t:TypeId):∃ W,V.alloc (.cells #[.slice p.headers.p p.headers.l.length p.headers.cap,.slice p.metas.p p.metas.l.length p.metas.cap,.slice p.states.p p.states.l.length p.states.cap,.slice p.actions.p p.actions.l.length p.actions.cap,.slice p.tables.p p.tables.l.length p.tables.cap,.slice p.control.p p.control.l.length p.control.cap,.slice p.emit.p p.emit.l.length p.emit.cap] t) = W ∧ (∃ z,W = plus V z) ∧ (∀ j v,p.cells[j]? = some v → W.cell? ⟨V.heap.size,j,none⟩ = some v) :=
 ⟨_,rfl,plus_of_below ((Below.refl _ V).alloc (Nat.le_refl _) _),fun j v hj=>(cell_new V _ _ _ j rfl).trans (by simpa [Pr.cells,Sl.v] using hj)⟩
abbrev Ats (P:Program) (V:World) (f:FuncId) (args:Array Value) (v:Value):Prop:=∀ W,(∃ z,W = plus V z) → Calls P f args W fun e w'=>e = .returned v ∧ ∃ x,w' = plus W x
theorem calls_pure {P:Program} {V:World} {f:FuncId} {args:Array Value} {v:Value} (h:PureIn P V f args v):Calls P f args V fun e w'=>e = .returned v ∧ ∃ x,w' = plus V x:=by
 have:=h ⟨#[],V.drawn⟩
 rwa [plus_self] at this
theorem ats_great (p:Pr) (V:World) (hin:p.In V) (hz:p.sz ≤ 1048576):Ats Tryz.prog V 5 #[.agg p.cells.toArray] (.bool (decide (6000 < p.sz))):=fun W ⟨z,h⟩=>by
 subst h
 exact calls_pure (ref_great p (plus V z) (hin.plus z) hz)
theorem ats_kp {P:Program} {V:World} {f:FuncId} {args:Array Value} {v:Value} (h:Kp P V f args v):Ats P V f args v:=fun _ ⟨_,hz⟩=>calls_pure (kp_at hz h)
end Go.Proofs.YtlmhldcebllckaaGreat
