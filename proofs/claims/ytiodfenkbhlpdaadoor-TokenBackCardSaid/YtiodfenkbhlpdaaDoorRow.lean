/-
  WHAT IS PROVED HERE: rows of 128 bools, in memory and as values; nothing of any function.
-/
import Derived.Test.YtiodfenkbhlpdaaDoorKit
import Derived.Test.YtiodfenkbhlpdaaDoorPlain
import Derived.Test.YtiodfenkbhlpdaaDoorRows
import Derived.WalkKit
import Derived.Deep.MidRow
namespace Go.Proofs.YtiodfenkbhlpdaaDoor
open Go.RowKit
/-- A row's cells; the row as a value. -/
def rowL (f : Nat → Bool) : List Value := (List.range 128).map fun i => .bool (f i)
abbrev rowV (f : Nat → Bool) : Value := .agg (rowL f).toArray
theorem rowL_length (f : Nat → Bool) : (rowL f).length = 128 := by simp [rowL]
theorem rowL_get (f : Nat → Bool) (i : Nat) (h : i < 128) : (rowL f)[i]? = some (.bool (f i)) := by simp [rowL, h]
theorem rowL_congr {f g : Nat → Bool} (h : ∀ i, i < 128 → f i = g i) : rowL f = rowL g := by
  unfold rowL
  apply List.map_congr_left
  intro i hi
  rw [h i (by simpa using hi)]
theorem rowV_congr {f g : Nat → Bool} (h : ∀ i, i < 128 → f i = g i) : rowV f = rowV g := by unfold rowV; rw [rowL_congr h]
/-- A row in a block of its own. -/
structure RowAt (V : World) (b : Nat) (f : Nat → Bool) : Prop where
  c : ∀ i, i < 128 → V.cell? ⟨b, i, none⟩ = some (.bool (f i))
  fz : ∀ o, V.frozen? ⟨b, o, none⟩ = false
theorem RowAt.range {V : World} {b : Nat} {f : Nat → Bool} (h : RowAt V b f) : V.rangeAt b 0 (rowL f) := by
  intro j v hv
  have hj : j < 128 := by have := (List.getElem?_eq_some_iff.1 hv).1; rwa [rowL_length] at this
  rw [rowL_get f j hj] at hv
  rw [← Option.some.inj hv, Nat.zero_add]
  exact h.c j hj
theorem RowAt.there {V : World} {b : Nat} {f : Nat → Bool} (h : RowAt V b f) : V.there b 0 128 := fun j hj => by
  rw [Nat.zero_add]
  exact ⟨by rw [h.c j hj]; rfl, h.fz j⟩
theorem RowAt.congr {V : World} {b : Nat} {f g : Nat → Bool} (h : RowAt V b f) (e : ∀ i, i < 128 → f i = g i) : RowAt V b g := ⟨fun i hi => by rw [← e i hi]; exact h.c i hi, h.fz⟩
theorem row_one (f : Nat → Bool) : (rowL f).toArray.all (·.oneCell') = true := all_oneCell_toArray (fun v hv => by
  unfold rowL at hv
  obtain ⟨i, _, rfl⟩ := List.mem_map.1 hv
  rfl)
theorem RowAt.there' {V : World} {b : Nat} {f : Nat → Bool} (h : RowAt V b f) (g : Nat → Bool) : V.there b 0 (rowL g).toArray.size := by rw [List.size_toArray, rowL_length]; exact h.there
theorem RowAt.written {V : World} {b : Nat} {g : Nat → Bool} (h : RowAt V b g) (f : Nat → Bool) : RowAt (V.setCells b 0 (rowL f)) b f := by
  refine ⟨fun i hi => ?_, fun o => ?_⟩
  · have := World.rangeAt_setCells_same V b 0 (rowL f) (by rw [rowL_length]; exact h.there) i (.bool (f i)) (rowL_get f i hi)
    rwa [Nat.zero_add] at this
  · rw [World.frozen?_setCells]; exact h.fz o
/-- What stands beside it. -/
theorem RowAt.below {V V' : World} {b B : Nat} {f : Nat → Bool} (h : RowAt V b f) (hV : Below B V V') (hb : b < B) : RowAt V' b f :=
  ⟨fun i hi => (hV.cell (p := ⟨b, i, none⟩) hb).trans (h.c i hi), fun o => (hV.frozen (p := ⟨b, o, none⟩) hb).trans (h.fz o)⟩
theorem RowAt.plus {V : World} {b : Nat} {f : Nat → Bool} (h : RowAt V b f) (hb : b < V.heap.size) (x : Ext) : RowAt (plus V x) b f := h.below (below_plus V x) hb
theorem RowAt.other {V : World} {b : Nat} {f : Nat → Bool} (h : RowAt V b f) (a : Addr) (ha : a.block ≠ b) (v : Value) : RowAt (V.setCell a v) b f :=
  ⟨fun i hi => (World.cell?_setCell_other _ _ _ _ (fun e => ha (by rw [e]))).trans (h.c i hi), fun o => by rw [World.frozen?_setCell]; exact h.fz o⟩
theorem RowAt.set {V : World} {b : Nat} {f : Nat → Bool} (h : RowAt V b f) (k : Nat) (hk : k < 128) (x : Bool) : RowAt (V.setCell ⟨b, k, none⟩ (.bool x)) b (fun i => if i = k then x else f i) := by
  refine ⟨fun i hi => ?_, fun o => by rw [World.frozen?_setCell]; exact h.fz o⟩
  by_cases e : i = k
  · subst e
    rw [if_pos rfl]
    exact World.cell?_setCell_same _ _ _ (h.c i hi)
  · rw [if_neg e, World.cell?_setCell_other _ _ _ _ (by intro h; injection h with _ h2; omega)]
    exact h.c i hi
theorem RowAt.new (w : World) (f : Nat → Bool) (T : TypeId) : RowAt (w.alloc (.cells (rowL f).toArray T)) w.heap.size f :=
  ⟨fun i hi => (cell_new w _ T _ i rfl).trans (by simpa using rowL_get f i hi), fun o => frozen_new w _ T _ o rfl⟩
theorem RowAt.old {V : World} {b : Nat} {f : Nat → Bool} (h : RowAt V b f) (hb : b < V.heap.size) (o : Obj) : RowAt (V.alloc o) b f := h.below ((Below.refl _ _).alloc (Nat.le_refl _) o) hb
theorem below_setCells {B : Nat} : ∀ (vs : List Value) (o : Nat) (a w : World) (b : Nat), Below B a w → B ≤ b → Below B a (w.setCells b o vs)
  | [], _, _, _, _, h, _ => h
  | v :: r, o, a, w, b, h, hb => by
    rw [World.setCells]
    exact below_setCells r (o + 1) a _ b (h.setCell hb v) hb
/-- A result that lies in a variable of its own. -/
theorem results_one {P : Program} {fn : Func} {p : Tmp} {ty : TypeId} (h : fn.results = #[.cell p ty]) (tmps : Array Value) (w : World) (a : Addr) (ha : tmps.getD p undef = .pointer (some a)) (v : Value) (hv : (loadVar ty a).run P w = .ok v w) :
    (results fn tmps).run P w = .ok v w := by
  have ha' : tmps[p]?.getD undef = .pointer (some a) := by simpa using ha
  simp only [results, h]
  simp [ha', asAddr, hv]
end Go.Proofs.YtiodfenkbhlpdaaDoor
