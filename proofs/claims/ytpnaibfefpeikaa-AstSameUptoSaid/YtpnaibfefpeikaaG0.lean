/-
  WHAT IS PROVED HERE: words for the walks of straight rows of conditions. Written by gen/astsame.py.
-/
import Derived.Test.YtpnaibfefpeikaaRows
import Derived.Test.YtpnaibfefpeikaaF0
import Derived.WalkKit
import Derived.Lib.Hide
import Derived.WalkSpells
import Derived.WalkLawsBesides
import Derived.Laws.EntriesVeiled
namespace Go.Proofs.Ytpnaibfefpeikaa
open Go.RowKit
theorem alloc0_plus (V : World) : ∃ x, V = plus V x := ⟨_, (plus_self V).symm⟩
theorem alloc1_plus (V : World) (a : Obj) : ∃ x, V.alloc a = plus V x := plus_of_below ((Below.refl _ V).alloc (Nat.le_refl _) a)
theorem alloc2_plus (V : World) (a b : Obj) : ∃ x, (V.alloc a).alloc b = plus V x := plus_of_below (((Below.refl _ V).alloc (Nat.le_refl _) a).alloc (by simp) b)
theorem calls_self {P : Program} {V : World} {f : FuncId} {args : Array Value} {v : Value} (h : Kp P V f args v) : Calls P f args V fun e w' => e = .returned v ∧ ∃ x, w' = plus V x := by
  have := h ⟨#[], V.drawn⟩
  rwa [plus_self] at this
theorem kp_at {P : Program} {V W : World} {z : Ext} {f : FuncId} {args : Array Value} {v : Value} (hz : W = plus V z) (h : Kp P V f args v) : PureIn P W f args v := by
  rw [hz]; exact (h.up z).pure
theorem box1n (V : World) (c : Array Value) (t : TypeId) : ∃ W y, V.alloc (.cells c t) = plus W y ∧ (∃ z, W = plus V z) ∧ (∀ o v, c[o]? = v → ∀ y, (plus W y).cell? ⟨V.heap.size, o, none⟩ = v) := by
  obtain ⟨W, hW, hB, hs, ca, fa⟩ := box1 V c t
  exact ⟨W, ⟨#[], W.drawn⟩, by rw [plus_self, hW], plus_of_below hB, ca⟩
theorem box2n (V : World) (c d : Array Value) (t u : TypeId) : ∃ W y, (V.alloc (.cells c t)).alloc (.cells d u) = plus W y ∧ (∃ z, W = plus V z) ∧ (∀ o v, c[o]? = v → ∀ y, (plus W y).cell? ⟨V.heap.size, o, none⟩ = v) ∧ (∀ o v, d[o]? = v → ∀ y, (plus W y).cell? ⟨V.heap.size + 1, o, none⟩ = v) := by
  obtain ⟨W, hW, hB, hs, ca, cb, fa, fb⟩ := box2 V c d t u
  exact ⟨W, ⟨#[], W.drawn⟩, by rw [plus_self, hW], plus_of_below hB, ca, cb⟩
theorem cell_at {V W : World} {z : Ext} {a : Addr} {v : Value} (hz : W = plus V z) (h : V.cell? a = some v) : W.cell? a = some v := by rw [hz]; exact cell_keep h z
end Go.Proofs.Ytpnaibfefpeikaa
