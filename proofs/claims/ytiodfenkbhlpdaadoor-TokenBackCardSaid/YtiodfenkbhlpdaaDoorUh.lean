/-
  WHAT IS PROVED HERE: what the document's number of layer 3 hands back, for every text of at most 2^47 bytes.
-/
import Derived.Test.YtiodfenkbhlpdaaDoorRows
import Derived.Test.YtiodfenkbhlpdaaDoorUg
import Derived.WalkKit
import Derived.WalkSpells
import Derived.WalkLawsBesides
import Derived.Deep.RegionWith
namespace Go.Proofs.YtiodfenkbhlpdaaDoor
open Go.RowKit
/-- Where the first w stands. -/
def wAt (s : ByteArray) : Option Nat := (List.range s.size).find? fun j => decide (byN s j = 119)
theorem wAt_some {s : ByteArray} {a : Nat} (ha : a < s.size) (h : byN s a = 119) (hno : ∀ j, j < a → ¬ byN s j = 119) : wAt s = some a :=
  List.find?_range_eq_some.2 ⟨decide_eq_true h, List.mem_range.2 ha, fun j hj => by rw [decide_eq_false (hno j hj)]; rfl⟩
theorem wAt_none {s : ByteArray} (hno : ∀ j, j < s.size → ¬ byN s j = 119) : wAt s = none :=
  List.find?_range_eq_none.2 fun j hj => by rw [decide_eq_false (hno j hj)]; rfl
/-- What the first k bytes tell, as decimal digits. -/
def decV (s : ByteArray) : Nat → Nat
  | 0 => 0
  | k + 1 => 10 * decV s k + (byN s k - 48)
theorem decV_lt (s : ByteArray) : ∀ k, (∀ j, j < k → isDig (byN s j) = true) → decV s k < 10 ^ k
  | 0, _ => Nat.one_pos
  | k + 1, h => by
    have h1 := decV_lt s k (fun j hj => h j (by omega))
    have h2 := h k (by omega)
    unfold isDig at h2
    simp only [decide_eq_true_eq] at h2
    show 10 * decV s k + (byN s k - 48) < 10 ^ (k + 1)
    rw [Nat.pow_succ]
    omega
/-- Do one to three digits, or none, stand ahead of byte a? -/
def headOk (s : ByteArray) (a : Nat) : Bool := decide (a ≤ 3) && (List.range a).all fun j => isDig (byN s j)
theorem headOk_yes {s : ByteArray} {a : Nat} (h3 : a ≤ 3) (h : ∀ j, j < a → isDig (byN s j) = true) : headOk s a = true := by
  unfold headOk
  rw [decide_eq_true h3, Bool.true_and, List.all_eq_true]
  exact fun j hj => h j (List.mem_range.1 hj)
theorem headOk_long {s : ByteArray} {a : Nat} (h3 : ¬ a ≤ 3) : headOk s a = false := by unfold headOk; rw [decide_eq_false h3, Bool.false_and]
theorem headOk_no {s : ByteArray} {a j : Nat} (hj : j < a) (h : isDig (byN s j) = false) : headOk s a = false := by
  unfold headOk
  rw [Bool.and_eq_false_iff]
  right
  rw [List.all_eq_false]
  exact ⟨j, List.mem_range.2 hj, by rw [h]; simp⟩
/-- A number's width, value, and what is wrong. -/
noncomputable def numR (s : ByteArray) : Int × Nat × Int := match wAt s with
  | none => if (parseS s).2 = 0 then (0, (parseS s).1, 0) else (0, 0, (parseS s).2)
  | some a => if headOk s a = true then
      (if decV s a < 1 ∨ 128 < decV s a then (0, 0, 10)
       else if (parseS (s.extract (a + 1) s.size)).2 = 0 then
         (if (parseS (s.extract (a + 1) s.size)).1 % 2 ^ hw (decV s a) = (parseS (s.extract (a + 1) s.size)).1 then ((decV s a : Nat), (parseS (s.extract (a + 1) s.size)).1, 0) else (0, 0, 5))
       else (0, 0, (parseS (s.extract (a + 1) s.size)).2))
      else (0, 0, 4)
theorem parseR_lt (b : Nat) (l : List UInt8) : (parseR b l).1 < B128 := by
  unfold parseR
  split
  · decide
  · split
    · split
      · decide
      · rename_i h; unfold B128; simp only; omega
    · decide
theorem parseS_lt (s : ByteArray) : (parseS s).1 < B128 := by unfold parseS; split <;> exact parseR_lt _ _
/-- The world while number goes on: the result, and the nought. -/
structure ZInv (w wr : World) : Prop where
  below : Below w.heap.size w wr
  size : w.heap.size + 1 + 1 ≤ wr.heap.size
  r0 : wr.cell? ⟨w.heap.size, 0, none⟩ = some (.int .u64 0)
  r1 : wr.cell? ⟨w.heap.size, 1, none⟩ = some (.int .u64 0)
  fr : ∀ o, wr.frozen? ⟨w.heap.size, o, none⟩ = false
  z0 : wr.cell? ⟨w.heap.size + 1, 0, none⟩ = some (.int .u64 0)
  z1 : wr.cell? ⟨w.heap.size + 1, 1, none⟩ = some (.int .u64 0)
theorem ZInv.start (w : World) (T U : TypeId) : ZInv w ((w.alloc (.cells #[.int .u64 0, .int .u64 0] T)).alloc (.cells #[.int .u64 0, .int .u64 0] U)) := by
  obtain ⟨W, hW, hB, hz, ca, cb, fa, fb⟩ := box2 w #[.int .u64 0, .int .u64 0] #[.int .u64 0, .int .u64 0] T U
  rw [← hW, ← plus_self W]
  exact ⟨hB.trans ((below_plus W _).mono hB.size), Nat.le_trans (by omega) (size_plus W _), ca 0 (some (.int .u64 0)) rfl _, ca 1 (some (.int .u64 0)) rfl _, fa _, cb 0 (some (.int .u64 0)) rfl _, cb 1 (some (.int .u64 0)) rfl _⟩
theorem ZInv.plus {w wr : World} (h : ZInv w wr) (x : Ext) : ZInv w (plus wr x) := by
  have hs := h.size
  exact ⟨h.below.trans ((below_plus wr x).mono h.below.size), Nat.le_trans hs (size_plus wr x), (cell_plus wr x _ 0 (by omega)).trans h.r0, (cell_plus wr x _ 1 (by omega)).trans h.r1, fun o => (frozen_plus wr x _ o (by omega)).trans (h.fr o), (cell_plus wr x _ 0 (by omega)).trans h.z0, (cell_plus wr x _ 1 (by omega)).trans h.z1⟩
theorem ZInv.alloc {w wr : World} (h : ZInv w wr) (x : Obj) : ZInv w (wr.alloc x) := by
  have hs := h.size
  exact ⟨h.below.alloc h.below.size _, by simp; omega, (cell_old wr x _ 0 (by omega)).trans h.r0, (cell_old wr x _ 1 (by omega)).trans h.r1, fun o => (frozen_old wr x _ o (by omega)).trans (h.fr o), (cell_old wr x _ 0 (by omega)).trans h.z0, (cell_old wr x _ 1 (by omega)).trans h.z1⟩
/-- A number's answer as a value. -/
noncomputable abbrev numV (r : Int × Nat × Int) : Value := .tuple #[.int .i64 r.1, nv r.2.1, .int .i64 r.2.2]
end Go.Proofs.YtiodfenkbhlpdaaDoor
