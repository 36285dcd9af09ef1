/-
  WHAT IS PROVED HERE: a part of the proof of the claim's theorem: UU; Ue.
-/
import Derived.WalkKit
import Derived.Lib.Hide
import Derived.Test.YtkffjjlmoojffaaGreatDoorRows
import Derived.Test.YtkffjjlmoojffaaGreatDoorB1
import Derived.WalkSpells
import Derived.WalkLawsBesides
import Derived.Lib.IndexBytes
set_option linter.all false
namespace Go.Proofs.YtkffjjlmoojffaaGreatDoor
open Go.RowKit
def byN (s : ByteArray) (k : Nat) : Nat := match s.data[k]? with | some b => b.toNat | none => 256
theorem byN_at {s : ByteArray} {k : Nat} (h : k < s.size) : byN s k = (s[k]).toNat := by
  have h' : k < s.data.size := h
  unfold byN
  rw [Array.getElem?_eq_getElem h']
  rfl
theorem byN_past {s : ByteArray} {k : Nat} (h : s.size ≤ k) : byN s k = 256 := by
  have h' : s.data.size ≤ k := h
  unfold byN
  rw [Array.getElem?_eq_none h']
def isLet (c : Nat) : Bool := decide ((97 ≤ c ∧ c ≤ 122) ∨ (65 ≤ c ∧ c ≤ 90) ∨ c = 95)
def isDig (c : Nat) : Bool := decide (48 ≤ c ∧ c ≤ 57)
def isBlank (c : Nat) : Bool := decide (c = 32 ∨ c = 9 ∨ c = 10)
def eol (s : ByteArray) (k : Nat) : Nat := if _h : k < s.size then (if byN s k = 10 then k else eol s (k + 1)) else k
termination_by s.size - k
theorem eol_stop {s : ByteArray} {k : Nat} (h : ¬ (k < s.size ∧ byN s k ≠ 10)) : eol s k = k := by
  rw [eol]
  by_cases h1 : k < s.size
  · rw [dif_pos h1]
    by_cases h2 : byN s k = 10
    · rw [if_pos h2]
    · exact absurd ⟨h1, h2⟩ h
  · rw [dif_neg h1]
theorem eol_go {s : ByteArray} {k : Nat} (h1 : k < s.size) (h2 : byN s k ≠ 10) : eol s k = eol s (k + 1) := by
  rw [eol, dif_pos h1, if_neg h2]
theorem eol_ge (s : ByteArray) : ∀ (d k : Nat), s.size - k = d → k ≤ eol s k
  | 0, k, h => by rw [eol_stop (by omega)]; exact Nat.le_refl _
  | d + 1, k, h => by
    by_cases h2 : byN s k = 10
    · rw [eol_stop (by omega)]; exact Nat.le_refl _
    · rw [eol_go (by omega) h2]
      have := eol_ge s d (k + 1) (by omega)
      omega
theorem eol_le (s : ByteArray) : ∀ (d k : Nat), s.size - k = d → k ≤ s.size → eol s k ≤ s.size
  | 0, k, h, hk => by rw [eol_stop (by omega)]; exact hk
  | d + 1, k, h, hk => by
    by_cases h2 : byN s k = 10
    · rw [eol_stop (by omega)]; exact hk
    · rw [eol_go (by omega) h2]
      exact eol_le s d (k + 1) (by omega) (by omega)
def isRem (s : ByteArray) (k : Nat) : Bool := decide (byN s k = 47 ∧ byN s (k + 1) = 47)
def skipN (s : ByteArray) (k : Nat) : Nat :=
  if _h : k < s.size then (if isBlank (byN s k) then skipN s (k + 1) else if isRem s k then skipN s (eol s (k + 1)) else k) else k
termination_by s.size - k
decreasing_by
  · omega
  · have := eol_ge s _ (k + 1) rfl
    omega
theorem skip_end {s : ByteArray} {k : Nat} (h : ¬ k < s.size) : skipN s k = k := by rw [skipN, dif_neg h]
theorem skip_blank {s : ByteArray} {k : Nat} (h : k < s.size) (hb : isBlank (byN s k) = true) : skipN s k = skipN s (k + 1) := by rw [skipN, dif_pos h, if_pos hb]
theorem skip_rem {s : ByteArray} {k : Nat} (h : k < s.size) (hb : isBlank (byN s k) = false) (hr : isRem s k = true) : skipN s k = skipN s (eol s k) := by
  have h47 : byN s k = 47 := by unfold isRem at hr; simp only [decide_eq_true_eq] at hr; exact hr.1
  rw [skipN, dif_pos h, if_neg (by rw [hb]; simp), if_pos hr, eol_go h (by omega)]
theorem skip_stop {s : ByteArray} {k : Nat} (h : k < s.size) (hb : isBlank (byN s k) = false) (hr : isRem s k = false) : skipN s k = k := by
  rw [skipN, dif_pos h, if_neg (by rw [hb]; simp), if_neg (by rw [hr]; simp)]
theorem skip_bounds (s : ByteArray) : ∀ (d k : Nat), s.size - k ≤ d → k ≤ s.size → k ≤ skipN s k ∧ skipN s k ≤ s.size
  | 0, k, h, hk => by rw [skip_end (by omega)]; omega
  | d + 1, k, h, hk => by
    by_cases h1 : k < s.size
    · cases hb : isBlank (byN s k) with
      | true => rw [skip_blank h1 hb]; have := skip_bounds s d (k + 1) (by omega) (by omega); omega
      | false =>
        cases hr : isRem s k with
        | true =>
          have h47 : byN s k = 47 := by unfold isRem at hr; simp only [decide_eq_true_eq] at hr; exact hr.1
          rw [skip_rem h1 hb hr, eol_go h1 (by omega)]
          have g := eol_ge s _ (k + 1) rfl
          have l := eol_le s _ (k + 1) rfl (by omega)
          have := skip_bounds s d (eol s (k + 1)) (by omega) l
          omega
        | false => rw [skip_stop h1 hb hr]; omega
    · rw [skip_end h1]; omega
end Go.Proofs.YtkffjjlmoojffaaGreatDoor
namespace Go.Proofs.YtkffjjlmoojffaaGreatDoor
open Go.RowKit
end Go.Proofs.YtkffjjlmoojffaaGreatDoor
namespace Go.Proofs.YtkffjjlmoojffaaGreatDoor
open Go.RowKit
def kwTab : Array ByteArray := #[⟨#[104, 101, 97, 100, 101, 114]⟩, ⟨#[109, 101, 116, 97, 100, 97, 116, 97]⟩, ⟨#[98, 105, 116]⟩, ⟨#[112, 97, 114, 115, 101, 114]⟩, ⟨#[115, 116, 97, 116, 101]⟩, ⟨#[101, 120, 116, 114, 97, 99, 116]⟩, ⟨#[116, 114, 97, 110, 115, 105, 116, 105, 111, 110]⟩, ⟨#[115, 101, 108, 101, 99, 116]⟩, ⟨#[97, 99, 99, 101, 112, 116]⟩, ⟨#[114, 101, 106, 101, 99, 116]⟩, ⟨#[100, 101, 102, 97, 117, 108, 116]⟩, ⟨#[97, 99, 116, 105, 111, 110]⟩, ⟨#[116, 97, 98, 108, 101]⟩, ⟨#[107, 101, 121]⟩, ⟨#[97, 99, 116, 105, 111, 110, 115]⟩, ⟨#[101, 120, 97, 99, 116]⟩, ⟨#[108, 112, 109]⟩, ⟨#[116, 101, 114, 110, 97, 114, 121]⟩, ⟨#[99, 111, 110, 116, 114, 111, 108]⟩, ⟨#[97, 112, 112, 108, 121]⟩, ⟨#[105, 102]⟩, ⟨#[101, 108, 115, 101]⟩, ⟨#[100, 114, 111, 112]⟩, ⟨#[102, 111, 114, 119, 97, 114, 100]⟩, ⟨#[118, 97, 108, 105, 100]⟩, ⟨#[105, 110, 118, 97, 108, 105, 100]⟩, ⟨#[100, 101, 112, 97, 114, 115, 101, 114]⟩, ⟨#[101, 109, 105, 116]⟩, ⟨#[109, 101, 116, 97]⟩, ⟨#[112, 111, 114, 116]⟩, ⟨#[105, 115, 86, 97, 108, 105, 100]⟩, ⟨#[95]⟩]
def kwAt (k : Nat) : ByteArray := kwTab.getD k ByteArray.empty
def kwB (s : ByteArray) : Bool := (List.range 32).any fun k => decide (kwAt k = s)
theorem kwB_yes {s : ByteArray} {k : Nat} (h : k < 32) (e : kwAt k = s) : kwB s = true := by
  unfold kwB; rw [List.any_eq_true]; exact ⟨k, List.mem_range.2 h, decide_eq_true e⟩
theorem str_beq (a b : ByteArray) : (a.toList == b.toList) = decide (a = b) := by
  rw [Bool.eq_iff_iff, beq_iff_eq, decide_eq_true_eq, Lib.toList_data, Lib.toList_data]
  exact ⟨fun h => ByteArray.ext (Array.toList_inj.1 h), fun h => by rw [h]⟩
def wordB (s : ByteArray) : Bool := (List.range s.size).all fun k => isLet (byN s k) || isDig (byN s k)
theorem wordB_yes {s : ByteArray} (h : ∀ k, k < s.size → (isLet (byN s k) || isDig (byN s k)) = true) : wordB s = true := by
  unfold wordB; rw [List.all_eq_true]; exact fun k hk => h k (List.mem_range.1 hk)
def nameB (s : ByteArray) : Bool := decide (1 ≤ s.size ∧ s.size ≤ 16) && !isDig (byN s 0) && !kwB s && wordB s
end Go.Proofs.YtkffjjlmoojffaaGreatDoor
namespace Go.Proofs.YtkffjjlmoojffaaGreatDoor
open Go.RowKit
def longTab : Array ByteArray := #[⟨#[38, 38, 38]⟩, ⟨#[61, 61]⟩, ⟨#[33, 61]⟩, ⟨#[60, 61]⟩, ⟨#[62, 61]⟩, ⟨#[60, 60]⟩, ⟨#[62, 62]⟩, ⟨#[38, 38]⟩, ⟨#[124, 124]⟩, ⟨#[43, 43]⟩, ⟨#[45, 62]⟩]
def longAt (k : Nat) : ByteArray := longTab.getD k ByteArray.empty
theorem long_size (k : Nat) (h : k < 11) : 2 ≤ (longAt k).size ∧ (longAt k).size ≤ 3 := by
  have hall : ∀ k : Nat, k < 11 → 2 ≤ (longAt k).size ∧ (longAt k).size ≤ 3 := by decide +kernel
  exact hall k h
def shortT : ByteArray := ⟨#[123, 125, 40, 41, 91, 93, 59, 58, 44, 61, 60, 62, 43, 45, 38, 124, 94, 126, 33, 46, 47]⟩
def fitB (s : ByteArray) (a : Nat) (m : ByteArray) : Bool := decide (a + m.size ≤ s.size ∧ s.extract a (a + m.size) = m)
def shortB (c : Nat) : Bool := (List.range 21).any fun j => decide (byN shortT j = c)
def markN (s : ByteArray) (a : Nat) : Nat := match (List.range 11).find? (fun j => fitB s a (longAt j)) with
  | some j => (longAt j).size
  | none => if shortB (byN s a) then 1 else 0
theorem mark_long {s : ByteArray} {a k : Nat} (hk : k < 11) (hf : fitB s a (longAt k) = true) (hno : ∀ j, j < k → fitB s a (longAt j) = false) : markN s a = (longAt k).size := by
  have h : (List.range 11).find? (fun j => fitB s a (longAt j)) = some k := List.find?_range_eq_some.2 ⟨hf, List.mem_range.2 hk, fun j hj => by rw [hno j hj]; rfl⟩
  unfold markN
  rw [h]
theorem mark_short {s : ByteArray} {a : Nat} (hno : ∀ j, j < 11 → fitB s a (longAt j) = false) : markN s a = if shortB (byN s a) then 1 else 0 := by
  have h : (List.range 11).find? (fun j => fitB s a (longAt j)) = none := List.find?_range_eq_none.2 fun j hj => by rw [hno j hj]; rfl
  unfold markN
  rw [h]
theorem short_yes {c j : Nat} (hj : j < 21) (e : byN shortT j = c) : shortB c = true := by
  unfold shortB; rw [List.any_eq_true]; exact ⟨j, List.mem_range.2 hj, decide_eq_true e⟩
theorem short_no {c : Nat} (h : ∀ j, j < 21 → ¬ byN shortT j = c) : shortB c = false := by
  unfold shortB
  rw [List.any_eq_false]
  intro j hj
  rw [decide_eq_false (h j (List.mem_range.1 hj))]
  simp
theorem markN_le (s : ByteArray) (a : Nat) (ha : a < s.size) : a + markN s a ≤ s.size := by
  cases h : (List.range 11).find? (fun j => fitB s a (longAt j)) with
  | some j =>
    have := (List.find?_range_eq_some.1 h).1
    unfold fitB at this
    unfold markN
    rw [h]
    exact (of_decide_eq_true this).1
  | none =>
    unfold markN
    rw [h]
    show a + (if shortB (byN s a) then 1 else 0) ≤ s.size
    split <;> omega
end Go.Proofs.YtkffjjlmoojffaaGreatDoor
