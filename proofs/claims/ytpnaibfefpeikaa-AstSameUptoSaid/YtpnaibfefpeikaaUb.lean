/-
  WHAT IS PROVED HERE: plain words on a text's bytes: letters, digits, line ends, what stands between tokens, marks, keywords and names; nothing of any program.
-/
import Derived.WalkKit
import Derived.Lib.Hide
namespace Go.Proofs.Ytpnaibfefpeikaa
open Go.RowKit
/-- A text's byte; 256 where there is none. -/
def byN (s : ByteArray) (k : Nat) : Nat := match s.data[k]? with | some b => b.toNat | none => 256
theorem byN_at {s : ByteArray} {k : Nat} (h : k < s.size) : byN s k = (s[k]).toNat := by
  have h' : k < s.data.size := h
  unfold byN
  rw [Array.getElem?_eq_getElem h']
  rfl
theorem byN_past {s : ByteArray} {k : Nat} (h : s.size ≤ k) : byN s k = 256 := by
  have h' : s.data.size ≤ k := h
  unfold byN
  rw [Array.getElem?_eq_none h']
def isLet (c : Nat) : Bool := decide ((97 ≤ c ∧ c ≤ 122) ∨ (65 ≤ c ∧ c ≤ 90) ∨ c = 95)
def isDig (c : Nat) : Bool := decide (48 ≤ c ∧ c ≤ 57)
def isBlank (c : Nat) : Bool := decide (c = 32 ∨ c = 9 ∨ c = 10)
/-- Where the line of byte k ends. -/
def eol (s : ByteArray) (k : Nat) : Nat := if _h : k < s.size then (if byN s k = 10 then k else eol s (k + 1)) else k
termination_by s.size - k
theorem eol_stop {s : ByteArray} {k : Nat} (h : ¬ (k < s.size ∧ byN s k ≠ 10)) : eol s k = k := by
  rw [eol]
  by_cases h1 : k < s.size
  · rw [dif_pos h1]
    by_cases h2 : byN s k = 10
    · rw [if_pos h2]
    · exact absurd ⟨h1, h2⟩ h
  · rw [dif_neg h1]
theorem eol_go {s : ByteArray} {k : Nat} (h1 : k < s.size) (h2 : byN s k ≠ 10) : eol s k = eol s (k + 1) := by
  rw [eol, dif_pos h1, if_neg h2]
theorem eol_ge (s : ByteArray) : ∀ (d k : Nat), s.size - k = d → k ≤ eol s k
  | 0, k, h => by rw [eol_stop (by omega)]; exact Nat.le_refl _
  | d + 1, k, h => by
    by_cases h2 : byN s k = 10
    · rw [eol_stop (by omega)]; exact Nat.le_refl _
    · rw [eol_go (by omega) h2]
      have := eol_ge s d (k + 1) (by omega)
      omega
theorem eol_le (s : ByteArray) : ∀ (d k : Nat), s.size - k = d → k ≤ s.size → eol s k ≤ s.size
  | 0, k, h, hk => by rw [eol_stop (by omega)]; exact hk
  | d + 1, k, h, hk => by
    by_cases h2 : byN s k = 10
    · rw [eol_stop (by omega)]; exact hk
    · rw [eol_go (by omega) h2]
      exact eol_le s d (k + 1) (by omega) (by omega)
/-- Do two slashes stand there? -/
def isRem (s : ByteArray) (k : Nat) : Bool := decide (byN s k = 47 ∧ byN s (k + 1) = 47)
/-- Where the next token begins. -/
def skipN (s : ByteArray) (k : Nat) : Nat :=
  if _h : k < s.size then (if isBlank (byN s k) then skipN s (k + 1) else if isRem s k then skipN s (eol s (k + 1)) else k) else k
termination_by s.size - k
decreasing_by
  · omega
  · have := eol_ge s _ (k + 1) rfl
    omega
theorem skip_end {s : ByteArray} {k : Nat} (h : ¬ k < s.size) : skipN s k = k := by rw [skipN, dif_neg h]
theorem skip_blank {s : ByteArray} {k : Nat} (h : k < s.size) (hb : isBlank (byN s k) = true) : skipN s k = skipN s (k + 1) := by rw [skipN, dif_pos h, if_pos hb]
theorem skip_rem {s : ByteArray} {k : Nat} (h : k < s.size) (hb : isBlank (byN s k) = false) (hr : isRem s k = true) : skipN s k = skipN s (eol s k) := by
  have h47 : byN s k = 47 := by unfold isRem at hr; simp only [decide_eq_true_eq] at hr; exact hr.1
  rw [skipN, dif_pos h, if_neg (by rw [hb]; simp), if_pos hr, eol_go h (by omega)]
theorem skip_stop {s : ByteArray} {k : Nat} (h : k < s.size) (hb : isBlank (byN s k) = false) (hr : isRem s k = false) : skipN s k = k := by
  rw [skipN, dif_pos h, if_neg (by rw [hb]; simp), if_neg (by rw [hr]; simp)]
theorem skip_bounds (s : ByteArray) : ∀ (d k : Nat), s.size - k ≤ d → k ≤ s.size → k ≤ skipN s k ∧ skipN s k ≤ s.size
  | 0, k, h, hk => by rw [skip_end (by omega)]; omega
  | d + 1, k, h, hk => by
    by_cases h1 : k < s.size
    · cases hb : isBlank (byN s k) with
      | true => rw [skip_blank h1 hb]; have := skip_bounds s d (k + 1) (by omega) (by omega); omega
      | false =>
        cases hr : isRem s k with
        | true =>
          have h47 : byN s k = 47 := by unfold isRem at hr; simp only [decide_eq_true_eq] at hr; exact hr.1
          rw [skip_rem h1 hb hr, eol_go h1 (by omega)]
          have g := eol_ge s _ (k + 1) rfl
          have l := eol_le s _ (k + 1) rfl (by omega)
          have := skip_bounds s d (eol s (k + 1)) (by omega) l
          omega
        | false => rw [skip_stop h1 hb hr]; omega
    · rw [skip_end h1]; omega
end Go.Proofs.Ytpnaibfefpeikaa
