/-
  WHAT IS PROVED HERE: a part of the proof of the claim's theorem: Uj.
-/
import Derived.Test.YtkffjjlmoojffaaGreatDoorRows
import Derived.Test.YtkffjjlmoojffaaGreatDoorB9
import Derived.Test.YtkffjjlmoojffaaGreatDoorB10
import Derived.WalkKit
import Derived.WalkSpells
import Derived.WalkLawsBesides
import Derived.OwnWalk
set_option linter.all false
namespace Go.Proofs.YtkffjjlmoojffaaGreatDoor
open Go.RowKit
theorem oneR_size (s : ByteArray) (a : Nat) (ha : a < s.size) (h : (oneR s a).2 = 0) : 1 ≤ (oneR s a).1.s.size ∧ a + (oneR s a).1.s.size ≤ s.size := by
  have hb := wEnd_bounds s _ a rfl (by omega)
  have hm := markN_le s a ha
  unfold oneR at h ⊢
  split
  · rename_i hw
    have hg := wEnd_go ha hw
    have hb2 := wEnd_bounds s _ (a + 1) rfl (by omega)
    have hz : (s.extract a (wEnd s a)).size = wEnd s a - a := by simp; omega
    split <;> (simp only [hz]; omega)
  · rename_i hw
    rw [if_neg hw] at h
    split
    · rename_i h0
      rw [if_pos h0] at h
      cases h
    · simp only [ByteArray.size_extract]; omega
def endTok (s : ByteArray) : Tok := ⟨0, ByteArray.empty, 0, 0, s.size⟩
noncomputable def lexN (s : ByteArray) : Nat → Nat → List Tok → List Tok × Nat × Int
  | 0, _, acc => (acc ++ [endTok s], 0, 0)
  | f + 1, a, acc => if a < s.size then (if (oneR s a).2 = 0 then lexN s f (skipN s (a + (oneR s a).1.s.size)) (acc ++ [(oneR s a).1]) else ([], a, (oneR s a).2)) else (acc ++ [endTok s], 0, 0)
theorem lexN_end {s : ByteArray} {a : Nat} (h : ¬ a < s.size) : ∀ f acc, lexN s f a acc = (acc ++ [endTok s], 0, 0)
  | 0, _ => rfl
  | f + 1, acc => by unfold lexN; rw [if_neg h]
theorem lexN_go {s : ByteArray} {a f : Nat} {acc : List Tok} (h : a < s.size) (h0 : (oneR s a).2 = 0) : lexN s (f + 1) a acc = lexN s f (skipN s (a + (oneR s a).1.s.size)) (acc ++ [(oneR s a).1]) := by
  rw [lexN, if_pos h, if_pos h0]
theorem lexN_bad {s : ByteArray} {a f : Nat} {acc : List Tok} (h : a < s.size) (h0 : ¬ (oneR s a).2 = 0) : lexN s (f + 1) a acc = ([], a, (oneR s a).2) := by
  rw [lexN, if_pos h, if_neg h0]
noncomputable def lexR (s : ByteArray) : List Tok × Nat × Int := if 65536 < s.size then ([], 0, 3) else lexN s s.size (skipN s 0) []
noncomputable def faultOf (s : ByteArray) (r : List Tok × Nat × Int) : Value := if r.2.2 = 0 then fv 0 0 0 else fv r.2.2 (lineOf s r.2.1 : Nat) (colOf s r.2.1 : Nat)
theorem grown_plus (w : World) (x : Ext) : w.grownBy (plus w x) none := ⟨rfl, rfl, rfl, size_plus w x, fun k hk _ => by
  show (w.heap ++ x.blocks)[k]? = w.heap[k]?
  rw [Array.getElem?_append]; simp [hk]⟩
theorem owns_plus {w : World} {base : Nat} {e : TypeId} {size : Nat} {v : Value} {n : Nat} {xs : List Value} (h : w.ownsRow base e size v n xs) (x : Ext) : (plus w x).ownsRow base e size v n xs :=
  h.kept (grown_plus w x) (by cases hv : v.ownBlock with
    | none => exact .inl rfl
    | some g => right; simp)
structure XInv (w : World) (acc : List Tok) (v : Value) (wr : World) : Prop where
  below : Below w.heap.size w wr
  size : w.heap.size + 1 ≤ wr.heap.size
  f0 : wr.cell? ⟨w.heap.size, 0, none⟩ = some (.int .i64 0)
  f1 : wr.cell? ⟨w.heap.size, 1, none⟩ = some (.int .i64 0)
  f2 : wr.cell? ⟨w.heap.size, 2, none⟩ = some (.int .i64 0)
  ff : ∀ o, wr.frozen? ⟨w.heap.size, o, none⟩ = false
  own : wr.ownsRow (w.heap.size + 1) 60 6 v acc.length (acc.flatMap tokL)
theorem XInv.plus {w wr : World} {acc : List Tok} {v : Value} (h : XInv w acc v wr) (x : Ext) : XInv w acc v (plus wr x) := by
  have hs := h.size
  exact ⟨h.below.trans ((below_plus wr x).mono h.below.size), Nat.le_trans hs (size_plus wr x), (cell_plus wr x _ _ (by omega)).trans h.f0, (cell_plus wr x _ _ (by omega)).trans h.f1, (cell_plus wr x _ _ (by omega)).trans h.f2, fun o => (frozen_plus wr x _ o (by omega)).trans (h.ff o), owns_plus h.own x⟩
theorem XInv.alloc {w wr : World} {acc : List Tok} {v : Value} (h : XInv w acc v wr) (x : Obj) : XInv w acc v (wr.alloc x) := by
  have hs := h.size
  exact ⟨h.below.alloc h.below.size _, by simp; omega, (cell_old wr x _ _ (by omega)).trans h.f0, (cell_old wr x _ _ (by omega)).trans h.f1, (cell_old wr x _ _ (by omega)).trans h.f2, fun o => (frozen_old wr x _ o (by omega)).trans (h.ff o), h.own.alloc x⟩
theorem XInv.start (w : World) (T : TypeId) : XInv w [] (.slice none 0 0) (w.alloc (.cells #[.int .i64 0, .int .i64 0, .int .i64 0] T)) :=
  ⟨(Below.refl _ _).alloc (Nat.le_refl _) _, by simp, cell_new w _ T _ 0 rfl, cell_new w _ T _ 1 rfl, cell_new w _ T _ 2 rfl, fun o => frozen_new w _ T _ o rfl, World.ownsRow_nil _ _ _ _⟩
theorem XInv.grown {w wr w1 : World} {acc : List Tok} {v v' : Value} {t : Tok} (h : XInv w acc v wr) (ho : w1.ownsRow (w.heap.size + 1) 60 6 v' (acc.length + 1) (acc.flatMap tokL ++ tokL t)) (hg : wr.grownBy w1 v.ownBlock) : XInv w (acc ++ [t]) v' w1 := by
  have hs := h.size
  have hlt := h.own.lt
  have hne : some w.heap.size ≠ v.ownBlock := fun e => by have := (hlt _ e.symm).1; omega
  have hb : ∀ o, w1.frozen? ⟨w.heap.size, o, none⟩ = wr.frozen? ⟨w.heap.size, o, none⟩ := fun o => World.frozen?_of_block (a := ⟨w.heap.size, o, none⟩) (hg.block _ (by show w.heap.size < _; omega) hne)
  refine ⟨h.below.grown hg h.below.size (fun k hk => by have := (hlt k hk).1; omega), Nat.le_trans hs hg.size, hg.cell h.f0 hne, hg.cell h.f1 hne, hg.cell h.f2 hne, fun o => (hb o).trans (h.ff o), ?_⟩
  simpa using ho
theorem owns_set {W : World} {base : Nat} {e : TypeId} {size : Nat} {v : Value} {n : Nat} {xs : List Value} (h : W.ownsRow base e size v n xs) (b o : Nat) (u : Value) (hb : b < base) : (W.setCell ⟨b, o, none⟩ u).ownsRow base e size v n xs := by
  obtain ⟨hl, h2⟩ := h
  refine ⟨hl, ?_⟩
  rcases h2 with h2 | ⟨g, cap, cur, hv, hg, hh, h3, h4, h5, h6⟩
  · exact .inl h2
  · exact .inr ⟨g, cap, cur, hv, hg, (Below.heap_setCell _ _ _ _ (by show g ≠ b; omega)).trans hh, h3, h4, h5, h6⟩
theorem tokL_end (s : ByteArray) : tokL (endTok s) = [.int .u8 0, .string ⟨#[]⟩, .int .i64 0, .int .u64 0, .int .u64 0, .int .i64 (s.size : Int)] := by
  unfold tokL endTok hi lo
  simp
  rfl
theorem tok_info : (Tryz.prog.info? 60).map (fun i => (i.zero, i.size, i.bytes)) = some (some (.agg #[.int .u8 0, .string ⟨#[]⟩, .int .i64 0, .int .u64 0, .int .u64 0, .int .i64 0]), 6, 56) := by kernel_rfl
theorem fault0 (s : ByteArray) (r : List Tok × Nat × Int) (h : r.2.2 = 0) : faultOf s r = fv 0 0 0 := by unfold faultOf; rw [if_pos h]
theorem fault1 (s : ByteArray) (r : List Tok × Nat × Int) (h : ¬ r.2.2 = 0) : faultOf s r = fv r.2.2 (lineOf s r.2.1 : Nat) (colOf s r.2.1 : Nat) := by unfold faultOf; rw [if_neg h]
end Go.Proofs.YtkffjjlmoojffaaGreatDoor
