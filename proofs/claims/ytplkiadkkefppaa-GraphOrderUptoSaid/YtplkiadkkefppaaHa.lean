/-
  WHAT IS PROVED HERE: what token's isDigit, isOfWord, firstWord, IsKeyword and IsName hand back; firstWord, IsName: of any text of at most 2^47 bytes. (Out of XLexA and XUi, by gen/ha.py.)
-/
import Derived.Test.YtplkiadkkefppaaRows
import Derived.Test.YtplkiadkkefppaaUU
import Derived.Test.YtplkiadkkefppaaKit
import Derived.Lib.Strings
import Derived.Lib.IndexBytes
import Derived.WalkKit
import Derived.WalkSpells
import Derived.WalkLawsBesides
namespace Go.Proofs.Ytplkiadkkefppaa
open Go.RowKit
/-- Where the word that byte k is of ends. -/
def wEnd (s : ByteArray) (k : Nat) : Nat := if _h : k < s.size then (if (isLet (byN s k) || isDig (byN s k)) = true then wEnd s (k + 1) else k) else k
termination_by s.size - k
theorem wEnd_go {s : ByteArray} {k : Nat} (h : k < s.size) (hb : (isLet (byN s k) || isDig (byN s k)) = true) : wEnd s k = wEnd s (k + 1) := by rw [wEnd, dif_pos h, if_pos hb]
theorem wEnd_stop {s : ByteArray} {k : Nat} (h : k < s.size) (hb : (isLet (byN s k) || isDig (byN s k)) = false) : wEnd s k = k := by rw [wEnd, dif_pos h, if_neg (by rw [hb]; simp)]
theorem wEnd_past {s : ByteArray} {k : Nat} (h : ¬ k < s.size) : wEnd s k = k := by rw [wEnd, dif_neg h]
theorem wEnd_bounds (s : ByteArray) : ∀ (d k : Nat), s.size - k = d → k ≤ s.size → k ≤ wEnd s k ∧ wEnd s k ≤ s.size
  | 0, k, h, hk => by rw [wEnd_past (by omega)]; omega
  | d + 1, k, h, hk => by
    cases hb : (isLet (byN s k) || isDig (byN s k)) with
    | true => rw [wEnd_go (by omega) hb]; have := wEnd_bounds s d (k + 1) (by omega) (by omega); omega
    | false => rw [wEnd_stop (by omega) hb]; omega
/-- What is left of a text from a byte on. -/
abbrev rest (s : ByteArray) (k : Nat) : ByteArray := s.extract k s.size
theorem data_len (s : ByteArray) : s.data.toList.length = s.size := by rw [Array.length_toList]; rfl
theorem rest_zero (s : ByteArray) : rest s 0 = s := by apply ByteArray.ext; simp [rest]
/-- Is it a byte of a word? -/
def isWrd (c : Nat) : Bool := isLet c || isDig c
theorem wrd_go {s : ByteArray} {k : Nat} (h : k < s.size) (hb : isWrd (byN s k) = true) : wEnd s k = wEnd s (k + 1) := wEnd_go h hb
theorem wrd_stop {s : ByteArray} {k : Nat} (h : k < s.size) (hb : isWrd (byN s k) = false) : wEnd s k = k := wEnd_stop h hb
theorem list_beq (s : ByteArray) (l : List UInt8) : (s.toList == l) = decide (s.data.toList = l) := by
  rw [Bool.eq_iff_iff, beq_iff_eq, decide_eq_true_eq, Lib.toList_data]
theorem list_contra {s : ByteArray} {l : List UInt8} (h1 : (s.toList == l) = true) (h2 : (s.toList == l) = false) : False := by rw [h1] at h2; cases h2
theorem kwB_list {s : ByteArray} {l : List UInt8} (h : (s.toList == l) = true) (hm : ((List.range 32).any fun k => decide ((kwAt k).data.toList = l)) = true) : kwB s = true := by
  rw [List.any_eq_true] at hm
  obtain ⟨k, hk, e⟩ := hm
  rw [list_beq, decide_eq_true_eq] at h
  rw [decide_eq_true_eq] at e
  refine kwB_yes (List.mem_range.1 hk) ?_
  apply ByteArray.ext
  rw [← Array.toList_inj, e, h]
theorem kwB_ex {s : ByteArray} (h : kwB s = true) : ∃ k, k < 32 ∧ (s.toList == (kwAt k).data.toList) = true := by
  unfold kwB at h
  rw [List.any_eq_true] at h
  obtain ⟨k, hk, e⟩ := h
  rw [decide_eq_true_eq] at e
  exact ⟨k, List.mem_range.1 hk, by rw [e, list_beq, decide_eq_true rfl]⟩
theorem wEnd_word (s : ByteArray) : (s.extract 0 (wEnd s 0) = s) ↔ wordB s = true := by
  have hb := wEnd_bounds s _ 0 rfl (Nat.zero_le _)
  have hz : (s.extract 0 (wEnd s 0)).size = wEnd s 0 := by rw [ByteArray.size_extract]; omega
  have hgo : ∀ (d k : Nat), s.size - k = d → k ≤ s.size → wEnd s k = s.size → ∀ j, k ≤ j → j < s.size → isWrd (byN s j) = true := by
    intro d
    induction d with
    | zero => intro k h _ _ j h1 h2; omega
    | succ d ih =>
      intro k h hk he j h1 h2
      cases hw : isWrd (byN s k) with
      | false => rw [wrd_stop (by omega) hw] at he; omega
      | true =>
        by_cases hj : j = k
        · rw [hj]; exact hw
        · rw [wrd_go (by omega) hw] at he
          exact ih (k + 1) (by omega) (by omega) he j (by omega) h2
  have hback : ∀ (d k : Nat), s.size - k = d → k ≤ s.size → (∀ j, k ≤ j → j < s.size → isWrd (byN s j) = true) → wEnd s k = s.size := by
    intro d
    induction d with
    | zero => intro k h hk _; rw [wEnd_past (by omega)]; omega
    | succ d ih =>
      intro k h hk hall
      rw [wrd_go (by omega) (hall k (Nat.le_refl _) (by omega))]
      exact ih (k + 1) (by omega) (by omega) (fun j h1 h2 => hall j (by omega) h2)
  constructor
  · intro h
    have he : wEnd s 0 = s.size := by rw [← hz, h]
    exact wordB_yes fun k hk => hgo _ 0 rfl (Nat.zero_le _) he k (Nat.zero_le _) hk
  · intro h
    unfold wordB at h
    rw [List.all_eq_true] at h
    have he : wEnd s 0 = s.size := hback _ 0 rfl (Nat.zero_le _) fun j _ hj => h j (List.mem_range.2 hj)
    rw [he]
    exact rest_zero s
end Go.Proofs.Ytplkiadkkefppaa
