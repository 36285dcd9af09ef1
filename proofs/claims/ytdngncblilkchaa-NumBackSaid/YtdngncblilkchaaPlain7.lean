/-
  WHAT IS PROVED HERE: what is read of a number's digits is the number; a text without noughts ahead that is read as a number is that number's digits. Nothing of any program but what Parse hands back.
-/
import Derived.Test.YtdngncblilkchaaPlain6
import Derived.Test.YtdngncblilkchaaNd
namespace Go.Proofs.Ytdngncblilkchaa
open Go.RowKit
theorem no_prefix (l : List UInt8) (h : digs 10 l) : Lib.hasPrefix l [48, 120] = false := by
  cases hp : Lib.hasPrefix l [48, 120] with
  | false => rfl
  | true =>
    unfold Lib.hasPrefix at hp
    rw [List.isPrefixOf_iff_prefix] at hp
    obtain ⟨r, hr⟩ := hp
    have := h 120 (by rw [← hr]; simp)
    revert this; decide
theorem parse_text (n J : Nat) (hn : n < B128) (hz : n / 10 ^ (J + 1) = 0) : parseS ⟨(digB n J).toArray⟩ = (n, 0) := by
  unfold parseS
  rw [show (⟨(digB n J).toArray⟩ : ByteArray).data.toList = digB n J from by simp, if_neg (by rw [no_prefix _ (digB_digs J n)]; simp)]
  have hv : valOf 10 (digB n J) = n := by rw [digB_val, digB_mod n J hz]
  rw [parseR_ok 10 _ (digB_ne n J) (digB_digs J n) (by rw [hv]; rw [b128] at hn; omega), hv]
theorem parseR_cases (b : Nat) (l : List UInt8) : ((parseR b l).2 = 0 ∧ l ≠ [] ∧ digs b l ∧ ¬ 2 ^ 128 ≤ valOf b l ∧ (parseR b l).1 = valOf b l) ∨ (parseR b l).2 = 4 ∨ (parseR b l).2 = 5 := by
  by_cases h0 : l = []
  · subst h0; rw [parseR_nil]; exact .inr (.inl rfl)
  · by_cases hd : digs b l
    · by_cases ho : 2 ^ 128 ≤ valOf b l
      · rw [parseR_over b l h0 hd ho]; exact .inr (.inr rfl)
      · rw [parseR_ok b l h0 hd ho]; exact .inl ⟨rfl, h0, hd, ho, rfl⟩
    · rw [parseR_bad b l hd]; exact .inr (.inl rfl)
theorem parseS_codes (s : ByteArray) : (parseS s).2 = 0 ∨ (parseS s).2 = 4 ∨ (parseS s).2 = 5 := by
  unfold parseS
  split
  · rcases parseR_cases 16 (Lib.trimPrefix s.data.toList [48, 120]) with h | h | h
    · exact .inl h.1
    · exact .inr (.inl h)
    · exact .inr (.inr h)
  · rcases parseR_cases 10 s.data.toList with h | h | h
    · exact .inl h.1
    · exact .inr (.inl h)
    · exact .inr (.inr h)
theorem parseS_some (s : ByteArray) (h : (parseS s).2 = 0) : 0 < s.size := by
  apply Classical.byContradiction
  intro h0
  have e := bytes_empty s (by omega)
  unfold parseS at h
  rw [e] at h
  rw [if_neg (by decide), parseR_nil] at h
  simp at h
theorem parseS_dec (s : ByteArray) (h : (parseS s).2 = 0) (h0 : 0 < s.size) (hc : s[0] ≠ 48) : s.data.toList ≠ [] ∧ digs 10 s.data.toList ∧ (parseS s).1 = valOf 10 s.data.toList ∧ valOf 10 s.data.toList < B128 := by
  have hp : Lib.hasPrefix s.data.toList [48, 120] = false := by
    cases hp : Lib.hasPrefix s.data.toList [48, 120] with
    | false => rfl
    | true =>
      exfalso
      unfold Lib.hasPrefix at hp
      rw [List.isPrefixOf_iff_prefix] at hp
      obtain ⟨r, hr⟩ := hp
      apply hc
      have e : s[0] = s.data.toList[0]'(by simpa using h0) := rfl
      rw [e]
      have : s.data.toList[0]? = some 48 := by rw [← hr]; rfl
      rw [List.getElem?_eq_getElem (by simpa using h0)] at this
      exact Option.some.inj this
  unfold parseS at h ⊢
  rw [hp] at h ⊢
  rw [if_neg (by simp)] at h ⊢
  rcases parseR_cases 10 s.data.toList with g | g | g
  · exact ⟨g.2.1, g.2.2.1, g.2.2.2.2, by rw [b128]; omega⟩
  · rw [g] at h; cases h
  · rw [g] at h; cases h
/-- A first digit that is no nought. -/
theorem lead : ∀ (k : Nat) (l : List UInt8), l.length = k + 1 → digs 10 l → l[0]? ≠ some 48 → 10 ^ k ≤ valOf 10 l := by
  intro k
  induction k with
  | zero =>
    intro l hl hd h0
    obtain ⟨c, rfl⟩ : ∃ c, l = [c] := by
      match l, hl with
      | [c], _ => exact ⟨c, rfl⟩
    obtain ⟨h1, h2⟩ := dig_sign c (hd c (by simp))
    have e : valOf 10 [c] = (digV (c.toNat : Int) 10).toNat := by simp [valOf]
    rw [e, Nat.pow_zero]
    apply Classical.byContradiction
    intro h
    have : (digV (c.toNat : Int) 10).toNat = 0 := by omega
    rw [this] at h1
    apply h0
    rw [← h1]; rfl
  | succ k ih =>
    intro l hl hd h0
    obtain ⟨l', c, rfl⟩ : ∃ l' c, l = l' ++ [c] := ⟨l.dropLast, l.getLast (by intro e; rw [e] at hl; simp at hl), (List.dropLast_concat_getLast _).symm⟩
    have hl' : l'.length = k + 1 := by simpa using hl
    have g := ih l' hl' (fun x hx => hd x (by simp [hx])) (by rw [List.getElem?_append_left (by omega)] at h0; exact h0)
    rw [valOf_snoc, Nat.pow_succ]
    omega
theorem text_back (s : ByteArray) (h : (parseS s).2 = 0) (h0 : 0 < s.size) (hc : s[0] ≠ 48) : (parseS s).1 < B128 ∧ ∃ J, J ≤ 38 ∧ (parseS s).1 / 10 ^ (J + 1) = 0 ∧ (∀ j, j < J → (parseS s).1 / 10 ^ (j + 1) ≠ 0) ∧ (⟨(digB (parseS s).1 J).toArray⟩ : ByteArray) = s := by
  obtain ⟨h1, h2, h3, h4⟩ := parseS_dec s h h0 hc
  have hl : s.data.toList.length = (s.size - 1) + 1 := by simp; omega
  obtain ⟨g1, g2⟩ := back_digits (s.size - 1) s.data.toList hl h2
  have g3 := lead (s.size - 1) s.data.toList hl h2 (by
    rw [List.getElem?_eq_getElem (by simpa using h0)]
    intro e
    exact hc (Option.some.inj e))
  rw [h3]
  have hnz : ∀ j, j < s.size - 1 → valOf 10 s.data.toList / 10 ^ (j + 1) ≠ 0 := by
    intro j hj e
    have := (Nat.div_eq_zero_iff_lt (Nat.pow_pos (by decide))).1 e
    have : 10 ^ (j + 1) ≤ 10 ^ (s.size - 1) := Nat.pow_le_pow_right (by decide) (by omega)
    omega
  refine ⟨h4, s.size - 1, ndig_le _ _ h4 hnz, Nat.div_eq_of_lt g2, hnz, ?_⟩
  rw [g1]
end Go.Proofs.Ytdngncblilkchaa
