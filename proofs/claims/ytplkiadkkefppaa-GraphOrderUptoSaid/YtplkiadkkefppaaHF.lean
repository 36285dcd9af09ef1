/-
  WHAT IS PROVED HERE: what the literals in forms.expr of the landed ast hand back, by what their callees hand back. Written by gen/hc.py. · what forms.expr and MayExpr of the landed ast hand back, of any expression that lies in memory and is not too great. · what forms.expr of the landed ast hands back, of any expression that lies in memory and is not too great.
-/
import Derived.Test.YtplkiadkkefppaaRows
import Derived.Test.YtplkiadkkefppaaHe
import Derived.WalkKit
import Derived.Lib.Hide
import Derived.WalkSpells
import Derived.WalkLawsBesides
import Derived.Laws.EntriesVeiled
import Derived.Shelf.Abstract
import Derived.Deep.RegionWith
namespace Go.Proofs.Ytplkiadkkefppaa
open Go.RowKit
theorem alloc3_plus (V : World) (a b d : Obj) : ∃ x, ((V.alloc a).alloc b).alloc d = plus V x := by
  obtain ⟨x, hx⟩ := alloc2_plus V a b
  rw [hx]
  exact plus_alloc1 V x d
theorem box3n (V : World) (c d e : Array Value) (t u s : TypeId) : ∃ W y, ((V.alloc (.cells c t)).alloc (.cells d u)).alloc (.cells e s) = plus W y ∧ (∃ z, W = plus V z) ∧ (∀ o v, c[o]? = v → ∀ y, (plus W y).cell? ⟨V.heap.size, o, none⟩ = v) ∧ (∀ o v, d[o]? = v → ∀ y, (plus W y).cell? ⟨V.heap.size + 1, o, none⟩ = v) ∧ (∀ o v, e[o]? = v → ∀ y, (plus W y).cell? ⟨V.heap.size + 1 + 1, o, none⟩ = v) := by
  obtain ⟨W, hW, hB, hs, ca, cb, cc, _, _, _⟩ := box3 V c d e t u s
  exact ⟨W, ⟨#[], W.drawn⟩, by rw [plus_self, hW], plus_of_below hB, ca, cb, cc⟩
end Go.Proofs.Ytplkiadkkefppaa
namespace Go.Proofs.Ytplkiadkkefppaa
open Go.RowKit
theorem getIn_range (z : Value) (f : Int → Value) (i : Int) : ∀ (n s : Nat), getIn z i ((List.range' s n).map fun (j : Nat) => (⟨.int .u8 ((j : Int) + 1), f ((j : Int) + 1), j⟩ : MapEntry)) = if (s : Int) + 1 ≤ i ∧ i ≤ (s : Int) + n then (f i, true) else (z, false)
  | 0, s => by rw [if_neg (by omega)]; rfl
  | n + 1, s => by
    rw [List.range'_succ, List.map_cons, getIn]
    simp only
    cases hi : (i == (s : Int) + 1) with
    | true =>
      rw [beq_iff_eq] at hi
      rw [if_pos rfl, if_pos (by omega), hi]
    | false =>
      have hi : ¬ i = (s : Int) + 1 := by simpa using hi
      rw [if_neg (by simp), getIn_range z f i n (s + 1)]
      by_cases h : (s : Int) + 1 ≤ i ∧ i ≤ (s : Int) + (n + 1 : Nat)
      · rw [if_pos h, if_pos (by omega)]
      · rw [if_neg h, if_neg (by omega)]
theorem keys_range (f : Int → Value) (n : Nat) : u8Keys (((List.range n).map fun (j : Nat) => (⟨.int .u8 ((j : Int) + 1), f ((j : Int) + 1), j⟩ : MapEntry)).toArray).toList := by
  intro e he
  simp only [List.mem_map] at he
  obtain ⟨j, _, rfl⟩ := he
  exact ⟨_, rfl⟩
theorem getIn_upto (z : Value) (f : Int → Value) (i : Int) (n : Nat) : getIn z i (((List.range n).map fun (j : Nat) => (⟨.int .u8 ((j : Int) + 1), f ((j : Int) + 1), j⟩ : MapEntry)).toArray).toList = if 1 ≤ i ∧ i ≤ n then (f i, true) else (z, false) := by
  have := getIn_range z f i n 0
  rw [← List.range_eq_range'] at this
  simpa using this
theorem xVal_none {op : Int} (h : ¬ (1 ≤ op ∧ op ≤ 26)) : xVal op = .agg #[.bool false, .bool false, .int .u8 0, .int .u8 0, .int .i64 0, .bool false] := by
  have e1 : xLit op = false := by unfold xLit; simp; omega
  have e2 : xSlice op = false := by unfold xSlice; simp; omega
  have e3 : xHead op = 0 := by unfold xHead; rw [if_neg (by omega)]
  have e4 : xName op = 0 := by unfold xName; rw [if_neg (by omega)]
  have e5 : xArgs op = 0 := by unfold xArgs; rw [if_neg (by omega), if_neg (by omega)]
  have e6 : xShift op = false := by unfold xShift; simp; omega
  unfold xVal
  rw [e1, e2, e3, e4, e5, e6]
theorem sVal_none {k : Int} (h : ¬ (1 ≤ k ∧ k ≤ 3)) : sVal k = .agg #[.bool false, .bool false] := by
  have e1 : sV k = false := by unfold sV; simp; omega
  have e2 : sM k = false := by unfold sM; simp; omega
  unfold sVal
  rw [e1, e2]
theorem tVal_none {k : Int} (h : ¬ (1 ≤ k ∧ k ≤ 7)) : tVal k = .agg #[.int .u8 0, .int .u8 0, .bool false, .bool false] := by
  have e1 : tHead k = 0 := by unfold tHead; rw [if_neg (by omega), if_neg (by omega)]
  have e2 : tName k = 0 := by unfold tName; rw [if_neg (by omega)]
  have e3 : tExpr k = false := by unfold tExpr; simp; omega
  have e4 : tBlocks k = false := by unfold tBlocks; simp; omega
  unfold tVal
  rw [e1, e2, e3, e4]
end Go.Proofs.Ytplkiadkkefppaa
namespace Go.Proofs.Ytplkiadkkefppaa
open Go.RowKit
theorem clo3f (V : World) (c d : Array Value) (v : Value) (t u s : TypeId) : ∃ W, ((V.alloc (.cells c t)).alloc (.cells d u)).alloc (.cells #[v] s) = W ∧ (∃ z, W = plus V z) ∧ (∀ x, c[0]? = some x → W.cell? ⟨V.heap.size, 0, none⟩ = some x) ∧ W.cell? ⟨V.heap.size + 1 + 1, 0, none⟩ = some v := by
  obtain ⟨W, y, hW, ⟨z, hz⟩, ca, cb, cc⟩ := box3n V c d #[v] t u s
  refine ⟨_, hW, ⟨_, by rw [hz, plus_plus]⟩, fun x hx => ca 0 _ hx y, cc 0 _ rfl y⟩
theorem wX_plus (V : World) : ∃ x, wX V 26 = plus V x := alloc1_plus V _
theorem wX_map (V : World) : MapAt (wX V 26) V.heap.size (esX 26) := ⟨26, by show (V.heap.push _)[V.heap.size]? = _; simp⟩
theorem X_after {W w1 w' : World} (h : ∃ y, w1 = plus W y) (hw : w' = wX w1 26) : ∃ x, w' = plus W x ∧ MapAt w' w1.heap.size (esX 26) := by
  obtain ⟨y, rfl⟩ := h
  subst hw
  obtain ⟨x, hx⟩ := wX_plus (plus W y)
  exact ⟨_, hx.trans (plus_plus _ _ _), wX_map _⟩
theorem drew_plus (W : World) (y : Ext) : ∃ z, (plus W y).drew = plus W z := ⟨⟨y.blocks, y.draws + 1⟩, rfl⟩
end Go.Proofs.Ytplkiadkkefppaa
