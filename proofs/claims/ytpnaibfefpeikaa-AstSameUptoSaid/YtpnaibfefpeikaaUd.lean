/-
  WHAT IS PROVED HERE: what the document's IsKeyword and IsName of layer 3 hand back, of any text. No condition.
-/
import Derived.Test.YtpnaibfefpeikaaRows
import Derived.Test.YtpnaibfefpeikaaUc
import Derived.WalkKit
import Derived.WalkSpells
import Derived.WalkLawsBesides
import Derived.Lib.IndexBytes
namespace Go.Proofs.Ytpnaibfefpeikaa
open Go.RowKit
theorem abs_world3 {P : Program} {c : Code} {Q : Exit → Act → World → Prop} {a : Act} {W : World} {T : World → Prop} (h : ∀ W, T W → c.wp P Q a W) (hT : T W) : c.wp P Q a W := h W hT
/-- A table of texts, and its cells. -/
def tabCells (t : Array ByteArray) : Array Value := t.map Value.string
theorem tab_cells {t : Array ByteArray} {k : Nat} (h : k < t.size) : (tabCells t)[k]? = some (.string t[k]) := by
  unfold tabCells
  rw [Array.getElem?_map, Array.getElem?_eq_getElem h]
  rfl
def kwTab : Array ByteArray := #[⟨#[104, 101, 97, 100, 101, 114]⟩, ⟨#[109, 101, 116, 97, 100, 97, 116, 97]⟩, ⟨#[98, 105, 116]⟩, ⟨#[112, 97, 114, 115, 101, 114]⟩, ⟨#[115, 116, 97, 116, 101]⟩, ⟨#[101, 120, 116, 114, 97, 99, 116]⟩, ⟨#[116, 114, 97, 110, 115, 105, 116, 105, 111, 110]⟩, ⟨#[115, 101, 108, 101, 99, 116]⟩, ⟨#[97, 99, 99, 101, 112, 116]⟩, ⟨#[114, 101, 106, 101, 99, 116]⟩, ⟨#[100, 101, 102, 97, 117, 108, 116]⟩, ⟨#[97, 99, 116, 105, 111, 110]⟩, ⟨#[116, 97, 98, 108, 101]⟩, ⟨#[107, 101, 121]⟩, ⟨#[97, 99, 116, 105, 111, 110, 115]⟩, ⟨#[101, 120, 97, 99, 116]⟩, ⟨#[108, 112, 109]⟩, ⟨#[116, 101, 114, 110, 97, 114, 121]⟩, ⟨#[99, 111, 110, 116, 114, 111, 108]⟩, ⟨#[97, 112, 112, 108, 121]⟩, ⟨#[105, 102]⟩, ⟨#[101, 108, 115, 101]⟩, ⟨#[100, 114, 111, 112]⟩, ⟨#[102, 111, 114, 119, 97, 114, 100]⟩, ⟨#[118, 97, 108, 105, 100]⟩, ⟨#[105, 110, 118, 97, 108, 105, 100]⟩, ⟨#[100, 101, 112, 97, 114, 115, 101, 114]⟩, ⟨#[101, 109, 105, 116]⟩, ⟨#[109, 101, 116, 97]⟩, ⟨#[112, 111, 114, 116]⟩, ⟨#[105, 115, 86, 97, 108, 105, 100]⟩, ⟨#[95]⟩]
theorem kwCells_eq : tabCells kwTab = #[.string ⟨#[104, 101, 97, 100, 101, 114]⟩, .string ⟨#[109, 101, 116, 97, 100, 97, 116, 97]⟩, .string ⟨#[98, 105, 116]⟩, .string ⟨#[112, 97, 114, 115, 101, 114]⟩, .string ⟨#[115, 116, 97, 116, 101]⟩, .string ⟨#[101, 120, 116, 114, 97, 99, 116]⟩, .string ⟨#[116, 114, 97, 110, 115, 105, 116, 105, 111, 110]⟩, .string ⟨#[115, 101, 108, 101, 99, 116]⟩, .string ⟨#[97, 99, 99, 101, 112, 116]⟩, .string ⟨#[114, 101, 106, 101, 99, 116]⟩, .string ⟨#[100, 101, 102, 97, 117, 108, 116]⟩, .string ⟨#[97, 99, 116, 105, 111, 110]⟩, .string ⟨#[116, 97, 98, 108, 101]⟩, .string ⟨#[107, 101, 121]⟩, .string ⟨#[97, 99, 116, 105, 111, 110, 115]⟩, .string ⟨#[101, 120, 97, 99, 116]⟩, .string ⟨#[108, 112, 109]⟩, .string ⟨#[116, 101, 114, 110, 97, 114, 121]⟩, .string ⟨#[99, 111, 110, 116, 114, 111, 108]⟩, .string ⟨#[97, 112, 112, 108, 121]⟩, .string ⟨#[105, 102]⟩, .string ⟨#[101, 108, 115, 101]⟩, .string ⟨#[100, 114, 111, 112]⟩, .string ⟨#[102, 111, 114, 119, 97, 114, 100]⟩, .string ⟨#[118, 97, 108, 105, 100]⟩, .string ⟨#[105, 110, 118, 97, 108, 105, 100]⟩, .string ⟨#[100, 101, 112, 97, 114, 115, 101, 114]⟩, .string ⟨#[101, 109, 105, 116]⟩, .string ⟨#[109, 101, 116, 97]⟩, .string ⟨#[112, 111, 114, 116]⟩, .string ⟨#[105, 115, 86, 97, 108, 105, 100]⟩, .string ⟨#[95]⟩] := by simp [tabCells, kwTab]
def kwAt (k : Nat) : ByteArray := kwTab.getD k ByteArray.empty
theorem kw_cells (k : Nat) (h : k < 32) : (tabCells kwTab)[k]? = some (.string (kwAt k)) := by
  have hs : k < kwTab.size := h
  rw [tab_cells hs]
  unfold kwAt
  simp [Array.getD, hs]
/-- Is it a keyword? -/
def kwB (s : ByteArray) : Bool := (List.range 32).any fun k => decide (kwAt k = s)
theorem kwB_yes {s : ByteArray} {k : Nat} (h : k < 32) (e : kwAt k = s) : kwB s = true := by
  unfold kwB; rw [List.any_eq_true]; exact ⟨k, List.mem_range.2 h, decide_eq_true e⟩
theorem kwB_no {s : ByteArray} (h : ∀ k, k < 32 → ¬ kwAt k = s) : kwB s = false := by
  unfold kwB
  rw [List.any_eq_false]
  intro k hk
  rw [decide_eq_false (h k (List.mem_range.1 hk))]
  simp
theorem str_beq (a b : ByteArray) : (a.toList == b.toList) = decide (a = b) := by
  rw [Bool.eq_iff_iff, beq_iff_eq, decide_eq_true_eq, Lib.toList_data, Lib.toList_data]
  exact ⟨fun h => ByteArray.ext (Array.toList_inj.1 h), fun h => by rw [h]⟩
/-- Is each byte a letter or a digit? -/
def wordB (s : ByteArray) : Bool := (List.range s.size).all fun k => isLet (byN s k) || isDig (byN s k)
theorem wordB_yes {s : ByteArray} (h : ∀ k, k < s.size → (isLet (byN s k) || isDig (byN s k)) = true) : wordB s = true := by
  unfold wordB; rw [List.all_eq_true]; exact fun k hk => h k (List.mem_range.1 hk)
theorem wordB_no {s : ByteArray} {k : Nat} (hk : k < s.size) (h : (isLet (byN s k) || isDig (byN s k)) = false) : wordB s = false := by
  unfold wordB; rw [List.all_eq_false]; exact ⟨k, List.mem_range.2 hk, by rw [h]; simp⟩
/-- Is it a name? -/
def nameB (s : ByteArray) : Bool := decide (1 ≤ s.size ∧ s.size ≤ 16) && !isDig (byN s 0) && !kwB s && wordB s
end Go.Proofs.Ytpnaibfefpeikaa
