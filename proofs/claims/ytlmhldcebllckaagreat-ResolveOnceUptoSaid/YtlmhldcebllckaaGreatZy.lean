/-
  WHAT IS PROVED HERE: ResolveOnce's own walk: where the program is great.
-/
import Derived.Test.YtlmhldcebllckaaGreatRows
import Derived.Test.YtlmhldcebllckaaGreatZx
import Derived.Test.YtlmhldcebllckaaGreatJn
namespace Go.Proofs.YtlmhldcebllckaaGreat
open Go.RowKit Go.Shelf
attribute [local go_sem] Oper.semAt_some
theorem pr_cells (p : Pr) : (#[.agg #[.slice p.headers.p p.headers.l.length p.headers.cap, .slice p.metas.p p.metas.l.length p.metas.cap, .slice p.states.p p.states.l.length p.states.cap, .slice p.actions.p p.actions.l.length p.actions.cap, .slice p.tables.p p.tables.l.length p.tables.cap, .slice p.control.p p.control.l.length p.control.cap, .slice p.emit.p p.emit.l.length p.emit.cap]] : Array Value) = #[.agg p.cells.toArray] := rfl
/-- The world's first new block holds the program. -/
theorem one_box (p : Pr) (V : World) (t : TypeId) : ∃ W, V.alloc (.cells #[.slice p.headers.p p.headers.l.length p.headers.cap, .slice p.metas.p p.metas.l.length p.metas.cap, .slice p.states.p p.states.l.length p.states.cap, .slice p.actions.p p.actions.l.length p.actions.cap, .slice p.tables.p p.tables.l.length p.tables.cap, .slice p.control.p p.control.l.length p.control.cap, .slice p.emit.p p.emit.l.length p.emit.cap] t) = W ∧ (∃ z, W = plus V z) ∧ (∀ j v, p.cells[j]? = some v → W.cell? ⟨V.heap.size, j, none⟩ = some v) :=
  ⟨_, rfl, plus_of_below ((Below.refl _ V).alloc (Nat.le_refl _) _), fun j v hj => (cell_new V _ _ _ j rfl).trans (by simpa [Pr.cells, Sl.v] using hj)⟩
abbrev Ats (P : Program) (V : World) (f : FuncId) (args : Array Value) (v : Value) : Prop := ∀ W, (∃ z, W = plus V z) → Calls P f args W fun e w' => e = .returned v ∧ ∃ x, w' = plus W x
theorem calls_pure {P : Program} {V : World} {f : FuncId} {args : Array Value} {v : Value} (h : PureIn P V f args v) : Calls P f args V fun e w' => e = .returned v ∧ ∃ x, w' = plus V x := by
  have := h ⟨#[], V.drawn⟩
  rwa [plus_self] at this
theorem ats_great (p : Pr) (V : World) (hin : p.In V) (hz : p.sz ≤ 1048576) : Ats Tryz.prog V 5 #[.agg p.cells.toArray] (.bool (decide (6000 < p.sz))) := fun W ⟨z, h⟩ => by
  subst h
  exact calls_pure (ref_great p (plus V z) (hin.plus z) hz)
theorem ats_kp {P : Program} {V : World} {f : FuncId} {args : Array Value} {v : Value} (h : Kp P V f args v) : Ats P V f args v := fun _ ⟨_, hz⟩ => calls_pure (kp_at hz h)
set_option maxRecDepth 100000 in
set_option maxHeartbeats 8000000 in
theorem once_great (p : Pr) (V : World) (hin : p.In V) (hz : p.sz ≤ 1048576) (hg : 6000 < p.sz) : CallsIn Fence.wide 0 Tryz.prog 4 #[.agg #[.slice p.headers.p p.headers.l.length p.headers.cap, .slice p.metas.p p.metas.l.length p.metas.cap, .slice p.states.p p.states.l.length p.states.cap, .slice p.actions.p p.actions.l.length p.actions.cap, .slice p.tables.p p.tables.l.length p.tables.cap, .slice p.control.p p.control.l.length p.control.cap, .slice p.emit.p p.emit.l.length p.emit.cap]] V fun e w' => e = .returned (.bool true) ∧ ∃ x, w' = plus V x := by
  have k1 := ats_great p V hin hz
  rw [← pr_cells, decide_eq_true hg] at k1
  have k1' := Lib.hid k1
  clear k1 hin hz hg
  refine callsIn_of_wp Tryz.func4 rfl trivial ?_ rfl
  simp only [Tryz.ntmps4, List.size_toArray, List.length_cons, List.length_nil, Nat.reduceAdd, Nat.reduceSub, Array.replicate_succ, Array.replicate_zero, List.push_toArray, List.append_toArray, List.nil_append, List.cons_append]
  gi_wp2
  obtain ⟨W, hW, hz1, cp⟩ := one_box p V 30
  rw [hW]
  have hz1' := Lib.hid hz1
  clear hW hz1 cp
  refine ⟨trivial, rfl, CallsIn.mono (callsIn_wide.2 (k1'.out W hz1'.out)) ?_⟩
  rintro e U ⟨rfl, x, hU⟩
  have hz2 : ∃ z, U = plus V z := by obtain ⟨z, h⟩ := hz1'.out; exact ⟨_, by rw [hU, h, plus_plus]⟩
  have hz2' := Lib.hid hz2
  clear hU hz2 hz1'
  gi_wp2
  refine ⟨trivial, rfl, CallsIn.mono (law_known7 U) ?_⟩
  rintro e X ⟨rfl, y, hX⟩
  have hz3 : ∃ z, X = plus V z := by obtain ⟨z, h⟩ := hz2'.out; exact ⟨_, by rw [hX, h, plus_plus]⟩
  have hz3' := Lib.hid hz3
  clear hX hz3
  gi_wp2
  go_ret
  exact ⟨rfl, hz3'.out⟩
set_option maxRecDepth 100000 in
set_option maxHeartbeats 8000000 in
theorem once_wrong (p : Pr) (V : World) (hin : p.In V) (hz : p.sz ≤ 1048576) (hg : ¬ 6000 < p.sz) (N E : Int) (hNv : chkN p = N) (hEv : chkE p = E) (hE : E ≠ 0) (hN1 : -1 ≤ N) (hN2 : N < max 1 (prI p : Int)) : CallsIn Fence.wide 0 Tryz.prog 4 #[.agg #[.slice p.headers.p p.headers.l.length p.headers.cap, .slice p.metas.p p.metas.l.length p.metas.cap, .slice p.states.p p.states.l.length p.states.cap, .slice p.actions.p p.actions.l.length p.actions.cap, .slice p.tables.p p.tables.l.length p.tables.cap, .slice p.control.p p.control.l.length p.control.cap, .slice p.emit.p p.emit.l.length p.emit.cap]] V fun e w' => e = .returned (.bool true) ∧ ∃ x, w' = plus V x := by
  have k1 := ats_great p V hin hz
  rw [← pr_cells, decide_eq_false hg] at k1
  have k1' := Lib.hid k1
  have k2 := ats_kp (q_Check p V hin hz)
  rw [hNv, hEv] at k2
  have k2' := Lib.hid k2
  have k3 := ats_kp (ritems_in p V hin hz)
  rw [← pr_cells] at k3
  have k3' := Lib.hid k3
  clear k1 k2 k3 hin hz hg hNv hEv
  generalize (prI p : Int) = T at hN2 k3'
  refine callsIn_of_wp Tryz.func4 rfl trivial ?_ rfl
  simp only [Tryz.ntmps4, List.size_toArray, List.length_cons, List.length_nil, Nat.reduceAdd, Nat.reduceSub, Array.replicate_succ, Array.replicate_zero, List.push_toArray, List.append_toArray, List.nil_append, List.cons_append]
  gi_wp2
  obtain ⟨W, hW, hz1, cp⟩ := one_box p V 30
  rw [hW]
  have hz1' := Lib.hid hz1
  obtain ⟨b, hb⟩ : ∃ b, V.heap.size = b := ⟨_, rfl⟩
  rw [hb] at cp ⊢
  clear hb
  have cpU : ∀ U, (∃ z, U = plus W z) → ∀ j v, p.cells[j]? = some v → U.cell? ⟨b, j, none⟩ = some v := fun U h j v hj => by obtain ⟨z, rfl⟩ := h; exact cell_keep (cp j v hj) z
  have cpU' := Lib.hid cpU
  clear hW hz1 cp cpU
  refine ⟨trivial, rfl, CallsIn.mono (callsIn_wide.2 (k1'.out W hz1'.out)) ?_⟩
  rintro e U ⟨rfl, x, hU⟩
  have u0 := cpU'.out U ⟨_, hU⟩ 0 _ rfl
  have u1 := cpU'.out U ⟨_, hU⟩ 1 _ rfl
  have u2 := cpU'.out U ⟨_, hU⟩ 2 _ rfl
  have u3 := cpU'.out U ⟨_, hU⟩ 3 _ rfl
  have u4 := cpU'.out U ⟨_, hU⟩ 4 _ rfl
  have u5 := cpU'.out U ⟨_, hU⟩ 5 _ rfl
  have u6 := cpU'.out U ⟨_, hU⟩ 6 _ rfl
  have hz2 : ∃ z, U = plus V z := by obtain ⟨z, h⟩ := hz1'.out; exact ⟨_, by rw [hU, h, plus_plus]⟩
  have hz2' := Lib.hid hz2
  have hw2' := Lib.hid (⟨_, hU⟩ : ∃ z, U = plus W z)
  clear hU hz2
  gi_wp2
  refine ⟨trivial, rfl, CallsIn.mono (callsIn_wide.2 (k2'.out U hz2'.out)) ?_⟩
  rintro e X ⟨rfl, y, hX⟩
  have hwX : ∃ z, X = plus W z := by obtain ⟨z, h⟩ := hw2'.out; exact ⟨_, by rw [hX, h, plus_plus]⟩
  have hz3 : ∃ z, X = plus V z := by obtain ⟨z, h⟩ := hz2'.out; exact ⟨_, by rw [hX, h, plus_plus]⟩
  have v0 := cpU'.out X hwX 0 _ rfl
  have v1 := cpU'.out X hwX 1 _ rfl
  have v2 := cpU'.out X hwX 2 _ rfl
  have v3 := cpU'.out X hwX 3 _ rfl
  have v4 := cpU'.out X hwX 4 _ rfl
  have v5 := cpU'.out X hwX 5 _ rfl
  have v6 := cpU'.out X hwX 6 _ rfl
  have hz3' := Lib.hid hz3
  clear hX hz3 hwX u0 u1 u2 u3 u4 u5 u6
  have g0 : (E == 0) = false := by simpa using hE
  gi_wp2
  refine ⟨trivial, rfl, CallsIn.mono (callsIn_wide.2 (k3'.out X hz3'.out)) ?_⟩
  rintro e Y ⟨rfl, y2, hY⟩
  have hz4 : ∃ z, Y = plus V z := by obtain ⟨z, h⟩ := hz3'.out; exact ⟨_, by rw [hY, h, plus_plus]⟩
  have hz4' := Lib.hid hz4
  clear hY hz4
  gi_wp2
  all_goals
    refine ⟨trivial, rfl, CallsIn.mono (law_known7 Y) ?_⟩
    rintro e Z ⟨rfl, y3, hZ⟩
    have hz5 : ∃ z, Z = plus V z := by obtain ⟨z, h⟩ := hz4'.out; exact ⟨_, by rw [hZ, h, plus_plus]⟩
    have hz5' := Lib.hid hz5
    clear hZ hz5
    gi_wp2
    go_ret
    exact ⟨rfl, hz5'.out⟩
end Go.Proofs.YtlmhldcebllckaaGreat
