/-
  WHAT IS PROVED HERE: plain words on a text's bytes: letters, digits, line ends, what stands between tokens, marks, keywords and names; nothing of any program. · what the document's letter, digit and skip of layer 3 hand back. skip: of any text of at most 2^47 bytes, and any byte of it. · what the document's IsKeyword and IsName of layer 3 hand back, of any text. No condition.
-/
import Derived.WalkKit
import Derived.Lib.Hide
import Derived.Test.YtplkiadkkefppaaRows
import Derived.Test.YtplkiadkkefppaaKit
import Derived.WalkSpells
import Derived.WalkLawsBesides
import Derived.Lib.IndexBytes
namespace Go.Proofs.Ytplkiadkkefppaa
open Go.RowKit
/-- A text's byte; 256 where there is none. -/
def byN (s : ByteArray) (k : Nat) : Nat := match s.data[k]? with | some b => b.toNat | none => 256
theorem byN_at {s : ByteArray} {k : Nat} (h : k < s.size) : byN s k = (s[k]).toNat := by
  have h' : k < s.data.size := h
  unfold byN
  rw [Array.getElem?_eq_getElem h']
  rfl
theorem byN_past {s : ByteArray} {k : Nat} (h : s.size ≤ k) : byN s k = 256 := by
  have h' : s.data.size ≤ k := h
  unfold byN
  rw [Array.getElem?_eq_none h']
def isLet (c : Nat) : Bool := decide ((97 ≤ c ∧ c ≤ 122) ∨ (65 ≤ c ∧ c ≤ 90) ∨ c = 95)
def isDig (c : Nat) : Bool := decide (48 ≤ c ∧ c ≤ 57)
def isBlank (c : Nat) : Bool := decide (c = 32 ∨ c = 9 ∨ c = 10)
/-- Where the line of byte k ends. -/
def eol (s : ByteArray) (k : Nat) : Nat := if _h : k < s.size then (if byN s k = 10 then k else eol s (k + 1)) else k
termination_by s.size - k
theorem eol_stop {s : ByteArray} {k : Nat} (h : ¬ (k < s.size ∧ byN s k ≠ 10)) : eol s k = k := by
  rw [eol]
  by_cases h1 : k < s.size
  · rw [dif_pos h1]
    by_cases h2 : byN s k = 10
    · rw [if_pos h2]
    · exact absurd ⟨h1, h2⟩ h
  · rw [dif_neg h1]
theorem eol_go {s : ByteArray} {k : Nat} (h1 : k < s.size) (h2 : byN s k ≠ 10) : eol s k = eol s (k + 1) := by
  rw [eol, dif_pos h1, if_neg h2]
theorem eol_ge (s : ByteArray) : ∀ (d k : Nat), s.size - k = d → k ≤ eol s k
  | 0, k, h => by rw [eol_stop (by omega)]; exact Nat.le_refl _
  | d + 1, k, h => by
    by_cases h2 : byN s k = 10
    · rw [eol_stop (by omega)]; exact Nat.le_refl _
    · rw [eol_go (by omega) h2]
      have := eol_ge s d (k + 1) (by omega)
      omega
theorem eol_le (s : ByteArray) : ∀ (d k : Nat), s.size - k = d → k ≤ s.size → eol s k ≤ s.size
  | 0, k, h, hk => by rw [eol_stop (by omega)]; exact hk
  | d + 1, k, h, hk => by
    by_cases h2 : byN s k = 10
    · rw [eol_stop (by omega)]; exact hk
    · rw [eol_go (by omega) h2]
      exact eol_le s d (k + 1) (by omega) (by omega)
/-- Do two slashes stand there? -/
def isRem (s : ByteArray) (k : Nat) : Bool := decide (byN s k = 47 ∧ byN s (k + 1) = 47)
/-- Where the next token begins. -/
def skipN (s : ByteArray) (k : Nat) : Nat :=
  if _h : k < s.size then (if isBlank (byN s k) then skipN s (k + 1) else if isRem s k then skipN s (eol s (k + 1)) else k) else k
termination_by s.size - k
decreasing_by
  · omega
  · have := eol_ge s _ (k + 1) rfl
    omega
theorem skip_end {s : ByteArray} {k : Nat} (h : ¬ k < s.size) : skipN s k = k := by rw [skipN, dif_neg h]
theorem skip_blank {s : ByteArray} {k : Nat} (h : k < s.size) (hb : isBlank (byN s k) = true) : skipN s k = skipN s (k + 1) := by rw [skipN, dif_pos h, if_pos hb]
theorem skip_rem {s : ByteArray} {k : Nat} (h : k < s.size) (hb : isBlank (byN s k) = false) (hr : isRem s k = true) : skipN s k = skipN s (eol s k) := by
  have h47 : byN s k = 47 := by unfold isRem at hr; simp only [decide_eq_true_eq] at hr; exact hr.1
  rw [skipN, dif_pos h, if_neg (by rw [hb]; simp), if_pos hr, eol_go h (by omega)]
theorem skip_stop {s : ByteArray} {k : Nat} (h : k < s.size) (hb : isBlank (byN s k) = false) (hr : isRem s k = false) : skipN s k = k := by
  rw [skipN, dif_pos h, if_neg (by rw [hb]; simp), if_neg (by rw [hr]; simp)]
theorem skip_bounds (s : ByteArray) : ∀ (d k : Nat), s.size - k ≤ d → k ≤ s.size → k ≤ skipN s k ∧ skipN s k ≤ s.size
  | 0, k, h, hk => by rw [skip_end (by omega)]; omega
  | d + 1, k, h, hk => by
    by_cases h1 : k < s.size
    · cases hb : isBlank (byN s k) with
      | true => rw [skip_blank h1 hb]; have := skip_bounds s d (k + 1) (by omega) (by omega); omega
      | false =>
        cases hr : isRem s k with
        | true =>
          have h47 : byN s k = 47 := by unfold isRem at hr; simp only [decide_eq_true_eq] at hr; exact hr.1
          rw [skip_rem h1 hb hr, eol_go h1 (by omega)]
          have g := eol_ge s _ (k + 1) rfl
          have l := eol_le s _ (k + 1) rfl (by omega)
          have := skip_bounds s d (eol s (k + 1)) (by omega) l
          omega
        | false => rw [skip_stop h1 hb hr]; omega
    · rw [skip_end h1]; omega
end Go.Proofs.Ytplkiadkkefppaa
namespace Go.Proofs.Ytplkiadkkefppaa
open Go.RowKit
theorem blank_yes {s : ByteArray} {k : Nat} (h : k < s.size) (e : isBlank (byN s k) = true) : ((((s[k]).toNat : Int) == 32) || (((s[k]).toNat : Int) == 9) || (((s[k]).toNat : Int) == 10)) = true := by
  rw [byN_at h] at e
  unfold isBlank at e
  rw [← e, Bool.eq_iff_iff]
  simp
  omega
theorem byte_is {s : ByteArray} {k c : Nat} (h : k < s.size) (e : byN s k = c) : (((s[k]).toNat : Int) == (c : Int)) = true := by
  rw [byN_at h] at e
  simp [e]
theorem byte_not {s : ByteArray} {k c : Nat} (h : k < s.size) (e : ¬ byN s k = c) : (((s[k]).toNat : Int) == (c : Int)) = false := by
  rw [byN_at h] at e
  simp
  omega
end Go.Proofs.Ytplkiadkkefppaa
namespace Go.Proofs.Ytplkiadkkefppaa
open Go.RowKit
theorem abs_world3 {P : Program} {c : Code} {Q : Exit → Act → World → Prop} {a : Act} {W : World} {T : World → Prop} (h : ∀ W, T W → c.wp P Q a W) (hT : T W) : c.wp P Q a W := h W hT
/-- A table of texts, and its cells. -/
def tabCells (t : Array ByteArray) : Array Value := t.map Value.string
theorem tab_cells {t : Array ByteArray} {k : Nat} (h : k < t.size) : (tabCells t)[k]? = some (.string t[k]) := by
  unfold tabCells
  rw [Array.getElem?_map, Array.getElem?_eq_getElem h]
  rfl
def kwTab : Array ByteArray := #[⟨#[104, 101, 97, 100, 101, 114]⟩, ⟨#[109, 101, 116, 97, 100, 97, 116, 97]⟩, ⟨#[98, 105, 116]⟩, ⟨#[112, 97, 114, 115, 101, 114]⟩, ⟨#[115, 116, 97, 116, 101]⟩, ⟨#[101, 120, 116, 114, 97, 99, 116]⟩, ⟨#[116, 114, 97, 110, 115, 105, 116, 105, 111, 110]⟩, ⟨#[115, 101, 108, 101, 99, 116]⟩, ⟨#[97, 99, 99, 101, 112, 116]⟩, ⟨#[114, 101, 106, 101, 99, 116]⟩, ⟨#[100, 101, 102, 97, 117, 108, 116]⟩, ⟨#[97, 99, 116, 105, 111, 110]⟩, ⟨#[116, 97, 98, 108, 101]⟩, ⟨#[107, 101, 121]⟩, ⟨#[97, 99, 116, 105, 111, 110, 115]⟩, ⟨#[101, 120, 97, 99, 116]⟩, ⟨#[108, 112, 109]⟩, ⟨#[116, 101, 114, 110, 97, 114, 121]⟩, ⟨#[99, 111, 110, 116, 114, 111, 108]⟩, ⟨#[97, 112, 112, 108, 121]⟩, ⟨#[105, 102]⟩, ⟨#[101, 108, 115, 101]⟩, ⟨#[100, 114, 111, 112]⟩, ⟨#[102, 111, 114, 119, 97, 114, 100]⟩, ⟨#[118, 97, 108, 105, 100]⟩, ⟨#[105, 110, 118, 97, 108, 105, 100]⟩, ⟨#[100, 101, 112, 97, 114, 115, 101, 114]⟩, ⟨#[101, 109, 105, 116]⟩, ⟨#[109, 101, 116, 97]⟩, ⟨#[112, 111, 114, 116]⟩, ⟨#[105, 115, 86, 97, 108, 105, 100]⟩, ⟨#[95]⟩]
theorem kwCells_eq : tabCells kwTab = #[.string ⟨#[104, 101, 97, 100, 101, 114]⟩, .string ⟨#[109, 101, 116, 97, 100, 97, 116, 97]⟩, .string ⟨#[98, 105, 116]⟩, .string ⟨#[112, 97, 114, 115, 101, 114]⟩, .string ⟨#[115, 116, 97, 116, 101]⟩, .string ⟨#[101, 120, 116, 114, 97, 99, 116]⟩, .string ⟨#[116, 114, 97, 110, 115, 105, 116, 105, 111, 110]⟩, .string ⟨#[115, 101, 108, 101, 99, 116]⟩, .string ⟨#[97, 99, 99, 101, 112, 116]⟩, .string ⟨#[114, 101, 106, 101, 99, 116]⟩, .string ⟨#[100, 101, 102, 97, 117, 108, 116]⟩, .string ⟨#[97, 99, 116, 105, 111, 110]⟩, .string ⟨#[116, 97, 98, 108, 101]⟩, .string ⟨#[107, 101, 121]⟩, .string ⟨#[97, 99, 116, 105, 111, 110, 115]⟩, .string ⟨#[101, 120, 97, 99, 116]⟩, .string ⟨#[108, 112, 109]⟩, .string ⟨#[116, 101, 114, 110, 97, 114, 121]⟩, .string ⟨#[99, 111, 110, 116, 114, 111, 108]⟩, .string ⟨#[97, 112, 112, 108, 121]⟩, .string ⟨#[105, 102]⟩, .string ⟨#[101, 108, 115, 101]⟩, .string ⟨#[100, 114, 111, 112]⟩, .string ⟨#[102, 111, 114, 119, 97, 114, 100]⟩, .string ⟨#[118, 97, 108, 105, 100]⟩, .string ⟨#[105, 110, 118, 97, 108, 105, 100]⟩, .string ⟨#[100, 101, 112, 97, 114, 115, 101, 114]⟩, .string ⟨#[101, 109, 105, 116]⟩, .string ⟨#[109, 101, 116, 97]⟩, .string ⟨#[112, 111, 114, 116]⟩, .string ⟨#[105, 115, 86, 97, 108, 105, 100]⟩, .string ⟨#[95]⟩] := by simp [tabCells, kwTab]
def kwAt (k : Nat) : ByteArray := kwTab.getD k ByteArray.empty
theorem kw_cells (k : Nat) (h : k < 32) : (tabCells kwTab)[k]? = some (.string (kwAt k)) := by
  have hs : k < kwTab.size := h
  rw [tab_cells hs]
  unfold kwAt
  simp [Array.getD, hs]
/-- Is it a keyword? -/
def kwB (s : ByteArray) : Bool := (List.range 32).any fun k => decide (kwAt k = s)
theorem kwB_yes {s : ByteArray} {k : Nat} (h : k < 32) (e : kwAt k = s) : kwB s = true := by
  unfold kwB; rw [List.any_eq_true]; exact ⟨k, List.mem_range.2 h, decide_eq_true e⟩
theorem kwB_no {s : ByteArray} (h : ∀ k, k < 32 → ¬ kwAt k = s) : kwB s = false := by
  unfold kwB
  rw [List.any_eq_false]
  intro k hk
  rw [decide_eq_false (h k (List.mem_range.1 hk))]
  simp
theorem str_beq (a b : ByteArray) : (a.toList == b.toList) = decide (a = b) := by
  rw [Bool.eq_iff_iff, beq_iff_eq, decide_eq_true_eq, Lib.toList_data, Lib.toList_data]
  exact ⟨fun h => ByteArray.ext (Array.toList_inj.1 h), fun h => by rw [h]⟩
/-- Is each byte a letter or a digit? -/
def wordB (s : ByteArray) : Bool := (List.range s.size).all fun k => isLet (byN s k) || isDig (byN s k)
theorem wordB_yes {s : ByteArray} (h : ∀ k, k < s.size → (isLet (byN s k) || isDig (byN s k)) = true) : wordB s = true := by
  unfold wordB; rw [List.all_eq_true]; exact fun k hk => h k (List.mem_range.1 hk)
theorem wordB_no {s : ByteArray} {k : Nat} (hk : k < s.size) (h : (isLet (byN s k) || isDig (byN s k)) = false) : wordB s = false := by
  unfold wordB; rw [List.all_eq_false]; exact ⟨k, List.mem_range.2 hk, by rw [h]; simp⟩
/-- Is it a name? -/
def nameB (s : ByteArray) : Bool := decide (1 ≤ s.size ∧ s.size ≤ 16) && !isDig (byN s 0) && !kwB s && wordB s
end Go.Proofs.Ytplkiadkkefppaa
