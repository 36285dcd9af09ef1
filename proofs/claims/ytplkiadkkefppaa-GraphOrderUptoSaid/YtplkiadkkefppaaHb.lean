/-
  WHAT IS PROVED HERE: what exprForms, setForms, stmtForms of the landed ast hand back (a map in a block of its own, with these entries), and what a look-up in such a map yields. Written by gen/hb.py.
-/
import Derived.Test.YtplkiadkkefppaaRows
import Derived.Test.YtplkiadkkefppaaFG
import Derived.WalkKit
import Derived.Lib.Hide
import Derived.LoopN
import Derived.MapKept
import Derived.WalkSpells
import Derived.WalkLawsBesides
namespace Go.Proofs.Ytplkiadkkefppaa
open Go.RowKit
/-- Block r is a map with these entries. -/
def MapAt (w : World) (r : Nat) (es : Array MapEntry) : Prop := ∃ n, w.heap[r]? = some (.map es n)
theorem MapAt.lt {w : World} {r : Nat} {es : Array MapEntry} (h : MapAt w r es) : r < w.heap.size := by
  obtain ⟨n, h⟩ := h
  exact (Array.getElem?_eq_some_iff.1 h).1
theorem MapAt.plus {w : World} {r : Nat} {es : Array MapEntry} (h : MapAt w r es) (x : Ext) : MapAt (plus w x) r es := by
  have hl := h.lt
  obtain ⟨n, h⟩ := h
  exact ⟨n, by simp [Go.Proofs.Ytplkiadkkefppaa.plus, Array.getElem?_append, hl]; exact (Array.getElem?_eq_some_iff.1 h).2⟩
theorem MapAt.alloc {w : World} {r : Nat} {es : Array MapEntry} (h : MapAt w r es) (a : Obj) : MapAt (w.alloc a) r es := by
  obtain ⟨x, hx⟩ := alloc1_plus w a
  rw [hx]; exact h.plus x
/-- What stands at a key, and whether one does. -/
def getIn (z : Value) (i : Int) : List MapEntry → Value × Bool
  | [] => (z, false)
  | e :: l => match e.key with
    | .int .u8 b => if i == b then (e.val, true) else getIn z i l
    | _ => (z, false)
def u8Keys (l : List MapEntry) : Prop := ∀ e ∈ l, ∃ b, e.key = .int .u8 b
theorem find_get (z : Value) (i : Int) : ∀ (l : List MapEntry) (j : Nat), u8Keys l → ∃ r, Instr.findNow (.int .u8) (.int .u8 i) l j = some r ∧ ((∃ a v, r = some (a, v) ∧ getIn z i l = (v, true)) ∨ (r = none ∧ getIn z i l = (z, false)))
  | [], j, _ => ⟨none, rfl, .inr ⟨rfl, rfl⟩⟩
  | e :: l, j, h => by
    obtain ⟨b, hb⟩ := h e (List.mem_cons_self)
    cases hib : (i == b) with
    | true => exact ⟨some (j, e.val), by simp [Instr.findNow, Instr.sameNow, hb, hib], .inl ⟨_, _, rfl, by simp [getIn, hb, hib]⟩⟩
    | false =>
      obtain ⟨r, h1, h2⟩ := find_get z i l (j + 1) (fun e he => h e (List.mem_cons_of_mem _ he))
      refine ⟨r, by simpa [Instr.findNow, Instr.sameNow, hb, hib] using h1, ?_⟩
      simpa [getIn, hb, hib] using h2
theorem look_u8 {P : Program} {w : World} {mt kt et : TypeId} {r : Nat} {es : Array MapEntry} {z : Value} (hm : P.underlying mt = some (.map kt et)) (hk : P.underlying kt = some (.int .u8)) (hz : (zeroValue et).run P w = .ok z w) (h : MapAt w r es) (hu : u8Keys es.toList) (i : Int) :
    (Instr.lookup mt (.map (some r)) (.int .u8 i) true).run P w = .ok (.tuple #[(getIn z i es.toList).1, .bool (getIn z i es.toList).2]) w := by
  obtain ⟨n, hb⟩ := h
  obtain ⟨q, h1, h2⟩ := find_get z i es.toList 0 hu
  have hc : (Instr.checkKey es.isEmpty 10000 kt (.int .u8 i)).run P w = .ok () w := MapKept.run_checkKey (k := .int .u8 i) hk (by simp [MapKept.IsKey]) _ 9999
  rcases h2 with ⟨a, v, rfl, hg⟩ | ⟨rfl, hg⟩
  · simp [Instr.lookup, run_underlying hm, MapKept.run_getObj_map hb, hc, MapKept.run_findKey hk h1, Result.andThen, hg]
  · simp [Instr.lookup, run_underlying hm, MapKept.run_getObj_map hb, hc, MapKept.run_findKey hk h1, Result.andThen, hg, hz]
theorem push_set {α : Type} (a : Array α) (x y : α) : (a.push x).setIfInBounds a.size y = a.push y := by
  apply Array.ext_getElem?
  intro i
  rw [Array.getElem?_setIfInBounds, Array.getElem?_push, Array.getElem?_push]
  by_cases h : a.size = i
  · subst h; simp
  · rw [if_neg h, if_neg (fun e => h e.symm), if_neg (fun e => h e.symm)]
theorem upd_u8 {P : Program} {mt kt et : TypeId} (hm : P.underlying mt = some (.map kt et)) (hk : P.underlying kt = some (.int .u8)) (V : World) (es : Array MapEntry) (n : Nat) (k : Int) (v : Value) (hn : Instr.findNow (.int .u8) (.int .u8 k) es.toList 0 = some none) :
    (Instr.mapUpdate mt (.map (some V.heap.size)) (.int .u8 k) v).run P (V.alloc (.map es n)) = .ok () (V.alloc (.map (es.push ⟨.int .u8 k, v, n⟩) (n + 1))) := by
  have hb : (V.alloc (.map es n)).heap[V.heap.size]? = some (.map es n) := by
    show (V.heap.push _)[V.heap.size]? = _
    simp
  have hc : (Instr.checkKey false 10000 kt (.int .u8 k)).run P (V.alloc (.map es n)) = .ok () (V.alloc (.map es n)) := MapKept.run_checkKey (k := .int .u8 k) hk (by simp [MapKept.IsKey]) false 9999
  simp only [Instr.mapUpdate, Sem.run_bind, run_underlying hm, hc, MapKept.run_getObj_map hb, MapKept.run_findKey hk hn, MapKept.run_setObj_map _ hb, Result.andThen]
  refine congrArg (Result.ok ()) ?_
  show ({ V with heap := (V.heap.push _).setIfInBounds V.heap.size _ } : World) = { V with heap := V.heap.push _ }
  congr 1
  exact push_set _ _ _
/-- The forms of an expression: has it a number, ends; head, name: 0 none, 1 one, 2 maybe one; how many Args; is the second one an amount? -/
def xLit (op : Int) : Bool := op == 1
def xSlice (op : Int) : Bool := op == 10
def xHead (op : Int) : Int := if op = 2 ∨ op = 6 then 1 else 0
def xName (op : Int) : Int := if op = 2 ∨ op = 3 ∨ op = 4 then 1 else 0
def xArgs (op : Int) : Int := if 7 ≤ op ∧ op ≤ 10 then 1 else if 11 ≤ op ∧ op ≤ 26 then 2 else 0
def xShift (op : Int) : Bool := op == 14 || op == 15
def xIs (op : Int) : Bool := decide (1 ≤ op ∧ op ≤ 26)
def xVal (op : Int) : Value := .agg #[.bool (xLit op), .bool (xSlice op), .int .u8 (xHead op), .int .u8 (xName op), .int .i64 (xArgs op), .bool (xShift op)]
def esX (n : Nat) : Array MapEntry := ((List.range n).map fun (i : Nat) => (⟨.int .u8 ((i : Int) + 1), xVal ((i : Int) + 1), i⟩ : MapEntry)).toArray
def wX (V : World) (n : Nat) : World := V.alloc (.map (esX n) n)
/-- Of a set: has it a value, a mask? -/
def sV (k : Int) : Bool := k == 2 || k == 3
def sM (k : Int) : Bool := k == 3
def sIs (k : Int) : Bool := decide (1 ≤ k ∧ k ≤ 3)
def sVal (k : Int) : Value := .agg #[.bool (sV k), .bool (sM k)]
def esS (n : Nat) : Array MapEntry := ((List.range n).map fun (i : Nat) => (⟨.int .u8 ((i : Int) + 1), sVal ((i : Int) + 1), i⟩ : MapEntry)).toArray
def wS (V : World) (n : Nat) : World := V.alloc (.map (esS n) n)
/-- Of a statement: head, name, an expression, blocks? -/
def tHead (k : Int) : Int := if k = 1 then 2 else if k = 6 ∨ k = 7 then 1 else 0
def tName (k : Int) : Int := if k = 1 ∨ k = 3 then 1 else 0
def tExpr (k : Int) : Bool := k == 1 || k == 2 || k == 5
def tBlocks (k : Int) : Bool := k == 2
def tIs (k : Int) : Bool := decide (1 ≤ k ∧ k ≤ 7)
def tVal (k : Int) : Value := .agg #[.int .u8 (tHead k), .int .u8 (tName k), .bool (tExpr k), .bool (tBlocks k)]
def esT (n : Nat) : Array MapEntry := ((List.range n).map fun (i : Nat) => (⟨.int .u8 ((i : Int) + 1), tVal ((i : Int) + 1), i⟩ : MapEntry)).toArray
def wT (V : World) (n : Nat) : World := V.alloc (.map (esT n) n)
end Go.Proofs.Ytplkiadkkefppaa
