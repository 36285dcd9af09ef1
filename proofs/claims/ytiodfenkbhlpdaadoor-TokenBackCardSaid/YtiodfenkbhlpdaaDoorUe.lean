/-
  WHAT IS PROVED HERE: what the document's mark of layer 3 hands back, of any text of at most 2^47 bytes, and any byte of it.
-/
import Derived.Test.YtiodfenkbhlpdaaDoorRows
import Derived.Test.YtiodfenkbhlpdaaDoorUd
import Derived.WalkKit
import Derived.WalkSpells
import Derived.WalkLawsBesides
namespace Go.Proofs.YtiodfenkbhlpdaaDoor
open Go.RowKit
def longTab : Array ByteArray := #[⟨#[38, 38, 38]⟩, ⟨#[61, 61]⟩, ⟨#[33, 61]⟩, ⟨#[60, 61]⟩, ⟨#[62, 61]⟩, ⟨#[60, 60]⟩, ⟨#[62, 62]⟩, ⟨#[38, 38]⟩, ⟨#[124, 124]⟩, ⟨#[43, 43]⟩, ⟨#[45, 62]⟩]
theorem longCells_eq : tabCells longTab = #[.string ⟨#[38, 38, 38]⟩, .string ⟨#[61, 61]⟩, .string ⟨#[33, 61]⟩, .string ⟨#[60, 61]⟩, .string ⟨#[62, 61]⟩, .string ⟨#[60, 60]⟩, .string ⟨#[62, 62]⟩, .string ⟨#[38, 38]⟩, .string ⟨#[124, 124]⟩, .string ⟨#[43, 43]⟩, .string ⟨#[45, 62]⟩] := by simp [tabCells, longTab]
def longAt (k : Nat) : ByteArray := longTab.getD k ByteArray.empty
theorem long_cells (k : Nat) (h : k < 11) : (tabCells longTab)[k]? = some (.string (longAt k)) := by
  have hs : k < longTab.size := h
  rw [tab_cells hs]
  unfold longAt
  simp [Array.getD, hs]
theorem long_size (k : Nat) (h : k < 11) : 2 ≤ (longAt k).size ∧ (longAt k).size ≤ 3 := by
  have hall : ∀ k : Nat, k < 11 → 2 ≤ (longAt k).size ∧ (longAt k).size ≤ 3 := by decide +kernel
  exact hall k h
def shortT : ByteArray := ⟨#[123, 125, 40, 41, 91, 93, 59, 58, 44, 61, 60, 62, 43, 45, 38, 124, 94, 126, 33, 46, 47]⟩
/-- Does a text stand there? -/
def fitB (s : ByteArray) (a : Nat) (m : ByteArray) : Bool := decide (a + m.size ≤ s.size ∧ s.extract a (a + m.size) = m)
/-- Is it a mark of one byte? -/
def shortB (c : Nat) : Bool := (List.range 21).any fun j => decide (byN shortT j = c)
/-- How many bytes the mark has that stands there. -/
def markN (s : ByteArray) (a : Nat) : Nat := match (List.range 11).find? (fun j => fitB s a (longAt j)) with
  | some j => (longAt j).size
  | none => if shortB (byN s a) then 1 else 0
theorem mark_long {s : ByteArray} {a k : Nat} (hk : k < 11) (hf : fitB s a (longAt k) = true) (hno : ∀ j, j < k → fitB s a (longAt j) = false) : markN s a = (longAt k).size := by
  have h : (List.range 11).find? (fun j => fitB s a (longAt j)) = some k := List.find?_range_eq_some.2 ⟨hf, List.mem_range.2 hk, fun j hj => by rw [hno j hj]; rfl⟩
  unfold markN
  rw [h]
theorem mark_short {s : ByteArray} {a : Nat} (hno : ∀ j, j < 11 → fitB s a (longAt j) = false) : markN s a = if shortB (byN s a) then 1 else 0 := by
  have h : (List.range 11).find? (fun j => fitB s a (longAt j)) = none := List.find?_range_eq_none.2 fun j hj => by rw [hno j hj]; rfl
  unfold markN
  rw [h]
theorem short_yes {c j : Nat} (hj : j < 21) (e : byN shortT j = c) : shortB c = true := by
  unfold shortB; rw [List.any_eq_true]; exact ⟨j, List.mem_range.2 hj, decide_eq_true e⟩
theorem short_no {c : Nat} (h : ∀ j, j < 21 → ¬ byN shortT j = c) : shortB c = false := by
  unfold shortB
  rw [List.any_eq_false]
  intro j hj
  rw [decide_eq_false (h j (List.mem_range.1 hj))]
  simp
theorem markN_le (s : ByteArray) (a : Nat) (ha : a < s.size) : a + markN s a ≤ s.size := by
  cases h : (List.range 11).find? (fun j => fitB s a (longAt j)) with
  | some j =>
    have := (List.find?_range_eq_some.1 h).1
    unfold fitB at this
    unfold markN
    rw [h]
    exact (of_decide_eq_true this).1
  | none =>
    unfold markN
    rw [h]
    show a + (if shortB (byN s a) then 1 else 0) ≤ s.size
    split <;> omega
end Go.Proofs.YtiodfenkbhlpdaaDoor
