/-
  WHAT IS PROVED HERE: what exprForms, setForms, stmtForms of the landed ast hand back (a map in a block of its own, with these entries), and what a look-up in such a map yields. Written by gen/hb.py.
-/
import Derived.Test.YtlmhldcebllckaaGreatRows
import Derived.Test.YtlmhldcebllckaaGreatFG
import Derived.WalkKit
import Derived.Lib.Hide
import Derived.LoopN
import Derived.MapKept
import Derived.WalkSpells
import Derived.WalkLawsBesides
namespace Go.Proofs.YtlmhldcebllckaaGreat
open Go.RowKit
/-- Block r is a map with these entries. -/
def MapAt (w : World) (r : Nat) (es : Array MapEntry) : Prop := ∃ n, w.heap[r]? = some (.map es n)
theorem MapAt.lt {w : World} {r : Nat} {es : Array MapEntry} (h : MapAt w r es) : r < w.heap.size := by
  obtain ⟨n, h⟩ := h
  exact (Array.getElem?_eq_some_iff.1 h).1
theorem MapAt.plus {w : World} {r : Nat} {es : Array MapEntry} (h : MapAt w r es) (x : Ext) : MapAt (plus w x) r es := by
  have hl := h.lt
  obtain ⟨n, h⟩ := h
  exact ⟨n, by simp [Go.Proofs.YtlmhldcebllckaaGreat.plus, Array.getElem?_append, hl]; exact (Array.getElem?_eq_some_iff.1 h).2⟩
theorem MapAt.alloc {w : World} {r : Nat} {es : Array MapEntry} (h : MapAt w r es) (a : Obj) : MapAt (w.alloc a) r es := by
  obtain ⟨x, hx⟩ := alloc1_plus w a
  rw [hx]; exact h.plus x
/-- What stands at a key, and whether one does. -/
def getIn (z : Value) (i : Int) : List MapEntry → Value × Bool
  | [] => (z, false)
  | e :: l => match e.key with
    | .int .u8 b => if i == b then (e.val, true) else getIn z i l
    | _ => (z, false)
def u8Keys (l : List MapEntry) : Prop := ∀ e ∈ l, ∃ b, e.key = .int .u8 b
theorem find_get (z : Value) (i : Int) : ∀ (l : List MapEntry) (j : Nat), u8Keys l → ∃ r, Instr.findNow (.int .u8) (.int .u8 i) l j = some r ∧ ((∃ a v, r = some (a, v) ∧ getIn z i l = (v, true)) ∨ (r = none ∧ getIn z i l = (z, false)))
  | [], j, _ => ⟨none, rfl, .inr ⟨rfl, rfl⟩⟩
  | e :: l, j, h => by
    obtain ⟨b, hb⟩ := h e (List.mem_cons_self)
    cases hib : (i == b) with
    | true => exact ⟨some (j, e.val), by simp [Instr.findNow, Instr.sameNow, hb, hib], .inl ⟨_, _, rfl, by simp [getIn, hb, hib]⟩⟩
    | false =>
      obtain ⟨r, h1, h2⟩ := find_get z i l (j + 1) (fun e he => h e (List.mem_cons_of_mem _ he))
      refine ⟨r, by simpa [Instr.findNow, Instr.sameNow, hb, hib] using h1, ?_⟩
      simpa [getIn, hb, hib] using h2
theorem look_u8 {P : Program} {w : World} {mt kt et : TypeId} {r : Nat} {es : Array MapEntry} {z : Value} (hm : P.underlying mt = some (.map kt et)) (hk : P.underlying kt = some (.int .u8)) (hz : (zeroValue et).run P w = .ok z w) (h : MapAt w r es) (hu : u8Keys es.toList) (i : Int) :
    (Instr.lookup mt (.map (some r)) (.int .u8 i) true).run P w = .ok (.tuple #[(getIn z i es.toList).1, .bool (getIn z i es.toList).2]) w := by
  obtain ⟨n, hb⟩ := h
  obtain ⟨q, h1, h2⟩ := find_get z i es.toList 0 hu
  have hc : (Instr.checkKey es.isEmpty 10000 kt (.int .u8 i)).run P w = .ok () w := MapKept.run_checkKey (k := .int .u8 i) hk (by simp [MapKept.IsKey]) _ 9999
  rcases h2 with ⟨a, v, rfl, hg⟩ | ⟨rfl, hg⟩
  · simp [Instr.lookup, run_underlying hm, MapKept.run_getObj_map hb, hc, MapKept.run_findKey hk h1, Result.andThen, hg]
  · simp [Instr.lookup, run_underlying hm, MapKept.run_getObj_map hb, hc, MapKept.run_findKey hk h1, Result.andThen, hg, hz]
theorem push_set {α : Type} (a : Array α) (x y : α) : (a.push x).setIfInBounds a.size y = a.push y := by
  apply Array.ext_getElem?
  intro i
  rw [Array.getElem?_setIfInBounds, Array.getElem?_push, Array.getElem?_push]
  by_cases h : a.size = i
  · subst h; simp
  · rw [if_neg h, if_neg (fun e => h e.symm), if_neg (fun e => h e.symm)]
theorem upd_u8 {P : Program} {mt kt et : TypeId} (hm : P.underlying mt = some (.map kt et)) (hk : P.underlying kt = some (.int .u8)) (V : World) (es : Array MapEntry) (n : Nat) (k : Int) (v : Value) (hn : Instr.findNow (.int .u8) (.int .u8 k) es.toList 0 = some none) :
    (Instr.mapUpdate mt (.map (some V.heap.size)) (.int .u8 k) v).run P (V.alloc (.map es n)) = .ok () (V.alloc (.map (es.push ⟨.int .u8 k, v, n⟩) (n + 1))) := by
  have hb : (V.alloc (.map es n)).heap[V.heap.size]? = some (.map es n) := by
    show (V.heap.push _)[V.heap.size]? = _
    simp
  have hc : (Instr.checkKey false 10000 kt (.int .u8 k)).run P (V.alloc (.map es n)) = .ok () (V.alloc (.map es n)) := MapKept.run_checkKey (k := .int .u8 k) hk (by simp [MapKept.IsKey]) false 9999
  simp only [Instr.mapUpdate, Sem.run_bind, run_underlying hm, hc, MapKept.run_getObj_map hb, MapKept.run_findKey hk hn, MapKept.run_setObj_map _ hb, Result.andThen]
  refine congrArg (Result.ok ()) ?_
  show ({ V with heap := (V.heap.push _).setIfInBounds V.heap.size _ } : World) = { V with heap := V.heap.push _ }
  congr 1
  exact push_set _ _ _
/-- The forms of an expression: has it a number, ends; head, name: 0 none, 1 one, 2 maybe one; how many Args; is the second one an amount? -/
def xLit (op : Int) : Bool := op == 1
def xSlice (op : Int) : Bool := op == 10
def xHead (op : Int) : Int := if op = 2 ∨ op = 6 then 1 else 0
def xName (op : Int) : Int := if op = 2 ∨ op = 3 ∨ op = 4 then 1 else 0
def xArgs (op : Int) : Int := if 7 ≤ op ∧ op ≤ 10 then 1 else if 11 ≤ op ∧ op ≤ 26 then 2 else 0
def xShift (op : Int) : Bool := op == 14 || op == 15
def xIs (op : Int) : Bool := decide (1 ≤ op ∧ op ≤ 26)
def xVal (op : Int) : Value := .agg #[.bool (xLit op), .bool (xSlice op), .int .u8 (xHead op), .int .u8 (xName op), .int .i64 (xArgs op), .bool (xShift op)]
def esX (n : Nat) : Array MapEntry := ((List.range n).map fun (i : Nat) => (⟨.int .u8 ((i : Int) + 1), xVal ((i : Int) + 1), i⟩ : MapEntry)).toArray
def wX (V : World) (n : Nat) : World := V.alloc (.map (esX n) n)
/-- Of a set: has it a value, a mask? -/
def sV (k : Int) : Bool := k == 2 || k == 3
def sM (k : Int) : Bool := k == 3
def sIs (k : Int) : Bool := decide (1 ≤ k ∧ k ≤ 3)
def sVal (k : Int) : Value := .agg #[.bool (sV k), .bool (sM k)]
def esS (n : Nat) : Array MapEntry := ((List.range n).map fun (i : Nat) => (⟨.int .u8 ((i : Int) + 1), sVal ((i : Int) + 1), i⟩ : MapEntry)).toArray
def wS (V : World) (n : Nat) : World := V.alloc (.map (esS n) n)
/-- Of a statement: head, name, an expression, blocks? -/
def tHead (k : Int) : Int := if k = 1 then 2 else if k = 6 ∨ k = 7 then 1 else 0
def tName (k : Int) : Int := if k = 1 ∨ k = 3 then 1 else 0
def tExpr (k : Int) : Bool := k == 1 || k == 2 || k == 5
def tBlocks (k : Int) : Bool := k == 2
def tIs (k : Int) : Bool := decide (1 ≤ k ∧ k ≤ 7)
def tVal (k : Int) : Value := .agg #[.int .u8 (tHead k), .int .u8 (tName k), .bool (tExpr k), .bool (tBlocks k)]
def esT (n : Nat) : Array MapEntry := ((List.range n).map fun (i : Nat) => (⟨.int .u8 ((i : Int) + 1), tVal ((i : Int) + 1), i⟩ : MapEntry)).toArray
def wT (V : World) (n : Nat) : World := V.alloc (.map (esT n) n)
theorem upd_X (V : World) (n : Nat) (hn : Instr.findNow (.int .u8) (.int .u8 ((n : Int) + 1)) (esX n).toList 0 = some none) :
    (Instr.mapUpdate 91 (.map (some V.heap.size)) (.int .u8 ((n : Int) + 1)) (xVal ((n : Int) + 1))).run Tryz.prog (wX V n) = .ok () (wX V (n + 1)) := by
  unfold wX
  rw [upd_u8 Tryz.underlying91 Tryz.underlying5 V _ n _ _ hn]
  simp [esX, List.range_succ]
set_option maxRecDepth 100000 in
set_option maxHeartbeats 8000000 in
theorem forms_X (V : World) : Calls Tryz.prog 88 #[] V fun e w' => e = .returned (.map (some V.heap.size)) ∧ w' = wX V 26 := by
  have u0 : (Instr.makeMap 91 none).run Tryz.prog V = .ok (.map (some V.heap.size)) (wX V 0) := rfl
  have v0 : (Instr.mapUpdate 91 (.map (some V.heap.size)) (.int .u8 1) (.agg #[.bool true, .bool false, .int .u8 0, .int .u8 0, .int .i64 0, .bool false])).run Tryz.prog (wX V 0) = .ok () (wX V 1) := upd_X V 0 rfl
  have v1 : (Instr.mapUpdate 91 (.map (some V.heap.size)) (.int .u8 2) (.agg #[.bool false, .bool false, .int .u8 1, .int .u8 1, .int .i64 0, .bool false])).run Tryz.prog (wX V 1) = .ok () (wX V 2) := upd_X V 1 rfl
  have v2 : (Instr.mapUpdate 91 (.map (some V.heap.size)) (.int .u8 3) (.agg #[.bool false, .bool false, .int .u8 0, .int .u8 1, .int .i64 0, .bool false])).run Tryz.prog (wX V 2) = .ok () (wX V 3) := upd_X V 2 rfl
  have v3 : (Instr.mapUpdate 91 (.map (some V.heap.size)) (.int .u8 4) (.agg #[.bool false, .bool false, .int .u8 0, .int .u8 1, .int .i64 0, .bool false])).run Tryz.prog (wX V 3) = .ok () (wX V 4) := upd_X V 3 rfl
  have v4 : (Instr.mapUpdate 91 (.map (some V.heap.size)) (.int .u8 5) (.agg #[.bool false, .bool false, .int .u8 0, .int .u8 0, .int .i64 0, .bool false])).run Tryz.prog (wX V 4) = .ok () (wX V 5) := upd_X V 4 rfl
  have v5 : (Instr.mapUpdate 91 (.map (some V.heap.size)) (.int .u8 6) (.agg #[.bool false, .bool false, .int .u8 1, .int .u8 0, .int .i64 0, .bool false])).run Tryz.prog (wX V 5) = .ok () (wX V 6) := upd_X V 5 rfl
  have v6 : (Instr.mapUpdate 91 (.map (some V.heap.size)) (.int .u8 7) (.agg #[.bool false, .bool false, .int .u8 0, .int .u8 0, .int .i64 1, .bool false])).run Tryz.prog (wX V 6) = .ok () (wX V 7) := upd_X V 6 rfl
  have v7 : (Instr.mapUpdate 91 (.map (some V.heap.size)) (.int .u8 8) (.agg #[.bool false, .bool false, .int .u8 0, .int .u8 0, .int .i64 1, .bool false])).run Tryz.prog (wX V 7) = .ok () (wX V 8) := upd_X V 7 rfl
  have v8 : (Instr.mapUpdate 91 (.map (some V.heap.size)) (.int .u8 9) (.agg #[.bool false, .bool false, .int .u8 0, .int .u8 0, .int .i64 1, .bool false])).run Tryz.prog (wX V 8) = .ok () (wX V 9) := upd_X V 8 rfl
  have v9 : (Instr.mapUpdate 91 (.map (some V.heap.size)) (.int .u8 10) (.agg #[.bool false, .bool true, .int .u8 0, .int .u8 0, .int .i64 1, .bool false])).run Tryz.prog (wX V 9) = .ok () (wX V 10) := upd_X V 9 rfl
  have v10 : (Instr.mapUpdate 91 (.map (some V.heap.size)) (.int .u8 11) (.agg #[.bool false, .bool false, .int .u8 0, .int .u8 0, .int .i64 2, .bool false])).run Tryz.prog (wX V 10) = .ok () (wX V 11) := upd_X V 10 rfl
  have v11 : (Instr.mapUpdate 91 (.map (some V.heap.size)) (.int .u8 12) (.agg #[.bool false, .bool false, .int .u8 0, .int .u8 0, .int .i64 2, .bool false])).run Tryz.prog (wX V 11) = .ok () (wX V 12) := upd_X V 11 rfl
  have v12 : (Instr.mapUpdate 91 (.map (some V.heap.size)) (.int .u8 13) (.agg #[.bool false, .bool false, .int .u8 0, .int .u8 0, .int .i64 2, .bool false])).run Tryz.prog (wX V 12) = .ok () (wX V 13) := upd_X V 12 rfl
  have v13 : (Instr.mapUpdate 91 (.map (some V.heap.size)) (.int .u8 14) (.agg #[.bool false, .bool false, .int .u8 0, .int .u8 0, .int .i64 2, .bool true])).run Tryz.prog (wX V 13) = .ok () (wX V 14) := upd_X V 13 rfl
  have v14 : (Instr.mapUpdate 91 (.map (some V.heap.size)) (.int .u8 15) (.agg #[.bool false, .bool false, .int .u8 0, .int .u8 0, .int .i64 2, .bool true])).run Tryz.prog (wX V 14) = .ok () (wX V 15) := upd_X V 14 rfl
  have v15 : (Instr.mapUpdate 91 (.map (some V.heap.size)) (.int .u8 16) (.agg #[.bool false, .bool false, .int .u8 0, .int .u8 0, .int .i64 2, .bool false])).run Tryz.prog (wX V 15) = .ok () (wX V 16) := upd_X V 15 rfl
  have v16 : (Instr.mapUpdate 91 (.map (some V.heap.size)) (.int .u8 17) (.agg #[.bool false, .bool false, .int .u8 0, .int .u8 0, .int .i64 2, .bool false])).run Tryz.prog (wX V 16) = .ok () (wX V 17) := upd_X V 16 rfl
  have v17 : (Instr.mapUpdate 91 (.map (some V.heap.size)) (.int .u8 18) (.agg #[.bool false, .bool false, .int .u8 0, .int .u8 0, .int .i64 2, .bool false])).run Tryz.prog (wX V 17) = .ok () (wX V 18) := upd_X V 17 rfl
  have v18 : (Instr.mapUpdate 91 (.map (some V.heap.size)) (.int .u8 19) (.agg #[.bool false, .bool false, .int .u8 0, .int .u8 0, .int .i64 2, .bool false])).run Tryz.prog (wX V 18) = .ok () (wX V 19) := upd_X V 18 rfl
  have v19 : (Instr.mapUpdate 91 (.map (some V.heap.size)) (.int .u8 20) (.agg #[.bool false, .bool false, .int .u8 0, .int .u8 0, .int .i64 2, .bool false])).run Tryz.prog (wX V 19) = .ok () (wX V 20) := upd_X V 19 rfl
  have v20 : (Instr.mapUpdate 91 (.map (some V.heap.size)) (.int .u8 21) (.agg #[.bool false, .bool false, .int .u8 0, .int .u8 0, .int .i64 2, .bool false])).run Tryz.prog (wX V 20) = .ok () (wX V 21) := upd_X V 20 rfl
  have v21 : (Instr.mapUpdate 91 (.map (some V.heap.size)) (.int .u8 22) (.agg #[.bool false, .bool false, .int .u8 0, .int .u8 0, .int .i64 2, .bool false])).run Tryz.prog (wX V 21) = .ok () (wX V 22) := upd_X V 21 rfl
  have v22 : (Instr.mapUpdate 91 (.map (some V.heap.size)) (.int .u8 23) (.agg #[.bool false, .bool false, .int .u8 0, .int .u8 0, .int .i64 2, .bool false])).run Tryz.prog (wX V 22) = .ok () (wX V 23) := upd_X V 22 rfl
  have v23 : (Instr.mapUpdate 91 (.map (some V.heap.size)) (.int .u8 24) (.agg #[.bool false, .bool false, .int .u8 0, .int .u8 0, .int .i64 2, .bool false])).run Tryz.prog (wX V 23) = .ok () (wX V 24) := upd_X V 23 rfl
  have v24 : (Instr.mapUpdate 91 (.map (some V.heap.size)) (.int .u8 25) (.agg #[.bool false, .bool false, .int .u8 0, .int .u8 0, .int .i64 2, .bool false])).run Tryz.prog (wX V 24) = .ok () (wX V 25) := upd_X V 24 rfl
  have v25 : (Instr.mapUpdate 91 (.map (some V.heap.size)) (.int .u8 26) (.agg #[.bool false, .bool false, .int .u8 0, .int .u8 0, .int .i64 2, .bool false])).run Tryz.prog (wX V 25) = .ok () (wX V 26) := upd_X V 25 rfl
  go_enter Tryz.func88, Tryz.ntmps88
  go_wp2
  refine wp_loop_rounds 17 ?_
  iterate 17 (rw [rounds_succ]; go_wp2)
  go_ret
  exact ⟨rfl, rfl⟩
theorem upd_S (V : World) (n : Nat) (hn : Instr.findNow (.int .u8) (.int .u8 ((n : Int) + 1)) (esS n).toList 0 = some none) :
    (Instr.mapUpdate 92 (.map (some V.heap.size)) (.int .u8 ((n : Int) + 1)) (sVal ((n : Int) + 1))).run Tryz.prog (wS V n) = .ok () (wS V (n + 1)) := by
  unfold wS
  rw [upd_u8 Tryz.underlying92 Tryz.underlying5 V _ n _ _ hn]
  simp [esS, List.range_succ]
set_option maxRecDepth 100000 in
set_option maxHeartbeats 8000000 in
theorem forms_S (V : World) : Calls Tryz.prog 89 #[] V fun e w' => e = .returned (.map (some V.heap.size)) ∧ w' = wS V 3 := by
  have u0 : (Instr.makeMap 92 none).run Tryz.prog V = .ok (.map (some V.heap.size)) (wS V 0) := rfl
  have v0 : (Instr.mapUpdate 92 (.map (some V.heap.size)) (.int .u8 1) (.agg #[.bool false, .bool false])).run Tryz.prog (wS V 0) = .ok () (wS V 1) := upd_S V 0 rfl
  have v1 : (Instr.mapUpdate 92 (.map (some V.heap.size)) (.int .u8 2) (.agg #[.bool true, .bool false])).run Tryz.prog (wS V 1) = .ok () (wS V 2) := upd_S V 1 rfl
  have v2 : (Instr.mapUpdate 92 (.map (some V.heap.size)) (.int .u8 3) (.agg #[.bool true, .bool true])).run Tryz.prog (wS V 2) = .ok () (wS V 3) := upd_S V 2 rfl
  go_enter Tryz.func89, Tryz.ntmps89
  go_wp2
  go_ret
  exact ⟨rfl, rfl⟩
theorem upd_T (V : World) (n : Nat) (hn : Instr.findNow (.int .u8) (.int .u8 ((n : Int) + 1)) (esT n).toList 0 = some none) :
    (Instr.mapUpdate 93 (.map (some V.heap.size)) (.int .u8 ((n : Int) + 1)) (tVal ((n : Int) + 1))).run Tryz.prog (wT V n) = .ok () (wT V (n + 1)) := by
  unfold wT
  rw [upd_u8 Tryz.underlying93 Tryz.underlying5 V _ n _ _ hn]
  simp [esT, List.range_succ]
set_option maxRecDepth 100000 in
set_option maxHeartbeats 8000000 in
theorem forms_T (V : World) : Calls Tryz.prog 90 #[] V fun e w' => e = .returned (.map (some V.heap.size)) ∧ w' = wT V 7 := by
  have u0 : (Instr.makeMap 93 none).run Tryz.prog V = .ok (.map (some V.heap.size)) (wT V 0) := rfl
  have v0 : (Instr.mapUpdate 93 (.map (some V.heap.size)) (.int .u8 1) (.agg #[.int .u8 2, .int .u8 1, .bool true, .bool false])).run Tryz.prog (wT V 0) = .ok () (wT V 1) := upd_T V 0 rfl
  have v1 : (Instr.mapUpdate 93 (.map (some V.heap.size)) (.int .u8 2) (.agg #[.int .u8 0, .int .u8 0, .bool true, .bool true])).run Tryz.prog (wT V 1) = .ok () (wT V 2) := upd_T V 1 rfl
  have v2 : (Instr.mapUpdate 93 (.map (some V.heap.size)) (.int .u8 3) (.agg #[.int .u8 0, .int .u8 1, .bool false, .bool false])).run Tryz.prog (wT V 2) = .ok () (wT V 3) := upd_T V 2 rfl
  have v3 : (Instr.mapUpdate 93 (.map (some V.heap.size)) (.int .u8 4) (.agg #[.int .u8 0, .int .u8 0, .bool false, .bool false])).run Tryz.prog (wT V 3) = .ok () (wT V 4) := upd_T V 3 rfl
  have v4 : (Instr.mapUpdate 93 (.map (some V.heap.size)) (.int .u8 5) (.agg #[.int .u8 0, .int .u8 0, .bool true, .bool false])).run Tryz.prog (wT V 4) = .ok () (wT V 5) := upd_T V 4 rfl
  have v5 : (Instr.mapUpdate 93 (.map (some V.heap.size)) (.int .u8 6) (.agg #[.int .u8 1, .int .u8 0, .bool false, .bool false])).run Tryz.prog (wT V 5) = .ok () (wT V 6) := upd_T V 5 rfl
  have v6 : (Instr.mapUpdate 93 (.map (some V.heap.size)) (.int .u8 7) (.agg #[.int .u8 1, .int .u8 0, .bool false, .bool false])).run Tryz.prog (wT V 6) = .ok () (wT V 7) := upd_T V 6 rfl
  go_enter Tryz.func90, Tryz.ntmps90
  go_wp2
  go_ret
  exact ⟨rfl, rfl⟩
end Go.Proofs.YtlmhldcebllckaaGreat
