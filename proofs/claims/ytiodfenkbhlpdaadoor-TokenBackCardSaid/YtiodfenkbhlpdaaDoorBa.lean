/-
  WHAT IS PROVED HERE: plain words on the document's tokens: written side by side with something between that may stand there they are lexed as the same ones; nothing of any program.
-/
import Derived.Test.YtiodfenkbhlpdaaDoorLexC
import Derived.Lib.Join
namespace Go.Proofs.YtiodfenkbhlpdaaDoor
open Go.RowKit
/-- A token of a text, that is not the one behind all. -/
def Real (s : ByteArray) (t : Tok) : Prop := t.at_ < s.size ∧ oneR s t.at_ = (t, 0)
theorem one_at (s : ByteArray) (a : Nat) : (oneR s a).1.at_ = a := by
  unfold oneR
  split
  · split <;> rfl
  · split <;> rfl
theorem Real.of {s : ByteArray} {a : Nat} (h : a < s.size) (h0 : (oneR s a).2 = 0) : Real s (oneR s a).1 := by
  refine ⟨by rw [one_at]; exact h, ?_⟩
  rw [one_at]
  exact Prod.ext rfl h0
theorem Real.size {s : ByteArray} {t : Tok} (h : Real s t) : 1 ≤ t.s.size ∧ t.at_ + t.s.size ≤ s.size := by
  have := oneR_size s t.at_ h.1 (by rw [h.2])
  rwa [h.2] at this
theorem ext_size (s : ByteArray) (a b : Nat) (h1 : a ≤ b) (h2 : b ≤ s.size) : s.extract a (a + (s.extract a b).size) = s.extract a b := by
  rw [ByteArray.size_extract]
  congr 1
  omega
theorem Real.text {s : ByteArray} {t : Tok} (h : Real s t) : s.extract t.at_ (t.at_ + t.s.size) = t.s := by
  have hb := wEnd_bounds s _ t.at_ rfl (Nat.le_of_lt h.1)
  have hm := markN_le s t.at_ h.1
  have h2 := h.2
  have hs := congrArg (fun x : Tok × Int => x.1.s) h2
  simp only at hs
  rw [← hs]
  have h0 : (oneR s t.at_).2 = 0 := by rw [h2]
  generalize t.at_ = a at hb hm h0 ⊢
  unfold oneR at h0 ⊢
  split
  · split
    · exact ext_size s a _ hb.1 hb.2
    · exact ext_size s a _ hb.1 hb.2
  · rename_i hw
    rw [if_neg hw] at h0
    split
    · rename_i h4
      rw [if_pos h4] at h0
      exact absurd h0 (show ¬ (4 : Int) = 0 by decide)
    · exact ext_size s a _ (by omega) hm
theorem Real.byte {s : ByteArray} {t : Tok} (h : Real s t) (j : Nat) (hj : j < t.s.size) : byN t.s j = byN s (t.at_ + j) := by
  have h2 := byN_extract s t.at_ (t.at_ + t.s.size) j (by omega)
  rwa [h.text] at h2
/-- What a lexed text's tokens are. -/
theorem lexN_real (s : ByteArray) : ∀ (f a : Nat) (acc l : List Tok) (x : Nat), a ≤ s.size → lexN s f a acc = (l, x, 0) → ∃ rs, l = acc ++ rs ++ [endTok s] ∧ (∀ t ∈ rs, Real s t) ∧ rs.length ≤ s.size - a ∧ (rs.map (·.s.size)).sum ≤ s.size - a
  | 0, a, acc, l, x, _, h => by
    unfold lexN at h
    exact ⟨[], by rw [List.append_nil]; exact (congrArg (·.1) h).symm, by simp, by simp, by simp⟩
  | f + 1, a, acc, l, x, ha, h => by
    by_cases h1 : a < s.size
    · by_cases h2 : (oneR s a).2 = 0
      · have hz := oneR_size s a h1 h2
        have hsk := skip_bounds s _ (a + (oneR s a).1.s.size) (Nat.le_refl _) hz.2
        rw [lexN_go h1 h2] at h
        obtain ⟨rs, e, hr, hl, hsum⟩ := lexN_real s f _ _ l x hsk.2 h
        refine ⟨(oneR s a).1 :: rs, by rw [e]; simp, fun t ht => ?_, by simp only [List.length_cons]; omega, by simp only [List.map_cons, List.sum_cons]; omega⟩
        rcases List.mem_cons.1 ht with rfl | ht
        · exact Real.of h1 h2
        · exact hr t ht
      · rw [lexN_bad h1 h2] at h
        exact absurd (congrArg (·.2.2) h) h2
    · rw [lexN_end h1] at h
      exact ⟨[], by rw [List.append_nil]; exact (congrArg (·.1) h).symm, by simp, by simp, by simp⟩
theorem fit_iff (s : ByteArray) (a : Nat) (m : ByteArray) : fitB s a m = true ↔ a + m.size ≤ s.size ∧ ∀ i, i < m.size → byN s (a + i) = byN m i := by
  unfold fitB
  rw [decide_eq_true_eq]
  constructor
  · rintro ⟨h1, h2⟩
    refine ⟨h1, fun i hi => ?_⟩
    have := byN_extract s a (a + m.size) i (by omega)
    rw [h2] at this
    exact this.symm
  · rintro ⟨h1, h2⟩
    refine ⟨h1, ?_⟩
    apply ByteArray.ext_getElem
    · rw [ByteArray.size_extract]; omega
    · intro i hi hi'
      have e1 : byN (s.extract a (a + m.size)) i = ((s.extract a (a + m.size))[i]).toNat := byN_at hi
      have e2 : byN m i = (m[i]).toNat := byN_at hi'
      rw [byN_extract s a (a + m.size) i (by omega), h2 i hi', e2] at e1
      exact (UInt8.toNat_inj.1 e1).symm
theorem blank_not_word {c : Nat} (h : isBlank c = true) : isWrd c = false := by
  unfold isBlank at h
  rw [decide_eq_true_eq] at h
  unfold isWrd isLet isDig
  rcases h with rfl | rfl | rfl <;> decide
theorem word_end (s : ByteArray) (p : Nat) : ∀ n, (∀ j, j < n → isWrd (byN s (p + j)) = true) → isWrd (byN s (p + n)) = false → wEnd s p = p + n := by
  intro n
  induction n generalizing p with
  | zero =>
    intro _ h
    by_cases hlt : p < s.size
    · exact wrd_stop hlt h
    · exact wEnd_past hlt
  | succ n ih =>
    intro h1 h2
    have h0 := h1 0 (by omega)
    have hlt : p < s.size := by
      rcases Nat.lt_or_ge p s.size with g | g
      · exact g
      · rw [Nat.add_zero, byN_past g] at h0; exact absurd h0 (by decide)
    rw [wrd_go hlt h0, ih (p + 1) (fun j hj => by rw [show p + 1 + j = p + (j + 1) by omega]; exact h1 (j + 1) (by omega)) (by rw [show p + 1 + n = p + (n + 1) by omega]; exact h2)]
    omega
theorem wEnd_all (s : ByteArray) : ∀ (d a : Nat), s.size - a = d → a ≤ s.size → ∀ j, a ≤ j → j < wEnd s a → isWrd (byN s j) = true
  | 0, a, h, _, j, h1, h2 => by rw [wEnd_past (by omega)] at h2; omega
  | d + 1, a, h, ha, j, h1, h2 => by
    cases hw : isWrd (byN s a) with
    | false => rw [wrd_stop (by omega) hw] at h2; omega
    | true =>
      by_cases hj : j = a
      · rw [hj]; exact hw
      · rw [wrd_go (by omega) hw] at h2
        exact wEnd_all s d (a + 1) (by omega) (by omega) j (by omega) h2
theorem long_blank (k i : Nat) (hk : k < 11) (hi : i < (longAt k).size) : isBlank (byN (longAt k) i) = false := by
  have hall : ∀ k : Nat, k < 11 → ∀ i : Nat, i < 3 → i < (longAt k).size → isBlank (byN (longAt k) i) = false := by decide +kernel
  exact hall k hk i (by have := (long_size k hk).2; omega) hi
theorem long_first (k : Nat) (hk : k < 11) : ¬ byN (longAt k) 0 = 47 := by
  have hall : ∀ k : Nat, k < 11 → ¬ byN (longAt k) 0 = 47 := by decide +kernel
  exact hall k hk
theorem mark_back {s A : ByteArray} {a p : Nat} (hn : ¬ markN s a = 0) (ha : a < s.size) (hA : p + markN s a < A.size) (hj : ∀ j, j < markN s a → byN A (p + j) = byN s (a + j)) (hb : isBlank (byN A (p + markN s a)) = true) : markN A p = markN s a := by
  have hm := markN_le s a ha
  have key : ∀ k, k < 11 → fitB s a (longAt k) = false → fitB A p (longAt k) = false := by
    intro k hk hf
    cases h : fitB A p (longAt k) with
    | false => rfl
    | true =>
      exfalso
      obtain ⟨h1, h2⟩ := (fit_iff A p _).1 h
      rcases Nat.lt_or_ge (markN s a) (longAt k).size with g | g
      · have := h2 (markN s a) g
        rw [this, long_blank k _ hk g] at hb
        cases hb
      · have : fitB s a (longAt k) = true := (fit_iff s a _).2 ⟨by omega, fun i hi => by rw [← hj i (by omega)]; exact h2 i hi⟩
        rw [this] at hf
        cases hf
  have hj0 : byN A p = byN s a := hj 0 (by omega)
  cases h : (List.range 11).find? (fun j => fitB s a (longAt j)) with
  | some j =>
    obtain ⟨h1, h2, h3⟩ := List.find?_range_eq_some.1 h
    have h2 := List.mem_range.1 h2
    have hno : ∀ i, i < j → fitB s a (longAt i) = false := fun i hi => by have := h3 i hi; simpa using this
    have e := mark_long h2 h1 hno
    rw [e] at hj hA ⊢
    refine mark_long h2 ((fit_iff A p _).2 ⟨by omega, fun i hi => ?_⟩) (fun i hi => key i (by omega) (hno i hi))
    rw [hj i hi]
    exact ((fit_iff s a _).1 h1).2 i hi
  | none =>
    have hno : ∀ i, i < 11 → fitB s a (longAt i) = false := fun i hi => by have := List.find?_range_eq_none.1 h i hi; simpa using this
    rw [mark_short hno, mark_short fun i hi => key i hi (hno i hi), hj0]
/-- The first byte of a token. -/
theorem Real.first {s : ByteArray} {t : Tok} (h : Real s t) : isBlank (byN t.s 0) = false ∧ (byN t.s 0 = 47 → t.s.size = 1) := by
  have hz := h.size
  have hb := h.byte 0 (by omega)
  rw [Nat.add_zero] at hb
  have h2 := h.2
  cases hw : isWrd (byN s t.at_) with
  | true =>
    refine ⟨?_, fun e => ?_⟩
    · rw [hb]
      cases hbl : isBlank (byN s t.at_) with
      | false => rfl
      | true => rw [blank_not_word hbl] at hw; cases hw
    · rw [← hb, e] at hw
      exact absurd hw (by decide)
  | false =>
    unfold oneR at h2
    rw [if_neg (by show ¬ isWrd (byN s t.at_) = true; rw [hw]; simp)] at h2
    by_cases h0 : markN s t.at_ = 0
    · rw [if_pos h0] at h2
      exact absurd (congrArg (·.2) h2) (show ¬ (4 : Int) = 0 by decide)
    · rw [if_neg h0] at h2
      have hts : t.s.size = markN s t.at_ := by
        have hm := markN_le s t.at_ h.1
        have := congrArg (fun x : Tok × Int => x.1.s.size) h2
        simp only [ByteArray.size_extract] at this
        omega
      cases hf : (List.range 11).find? (fun j => fitB s t.at_ (longAt j)) with
      | some j =>
        obtain ⟨h1, h3, _⟩ := List.find?_range_eq_some.1 hf
        have h3 := List.mem_range.1 h3
        have hl := ((fit_iff s _ _).1 h1).2 0 (by have := (long_size j h3).1; omega)
        rw [Nat.add_zero] at hl
        rw [hb, hl]
        exact ⟨long_blank j 0 h3 (by have := (long_size j h3).1; omega), fun e => absurd e (long_first j h3)⟩
      | none =>
        have hno : ∀ i, i < 11 → fitB s t.at_ (longAt i) = false := fun i hi => by have := List.find?_range_eq_none.1 hf i hi; simpa using this
        have e := mark_short hno
        cases hsb : shortB (byN s t.at_) with
        | false => rw [hsb] at e; exact absurd e h0
        | true =>
          rw [hsb, if_pos rfl] at e
          refine ⟨?_, fun _ => by rw [hts, e]⟩
          rw [hb]
          unfold shortB at hsb
          rw [List.any_eq_true] at hsb
          obtain ⟨j, hj, ej⟩ := hsb
          rw [decide_eq_true_eq] at ej
          rw [← ej]
          have hall : ∀ j : Nat, j < 21 → isBlank (byN shortT j) = false := by decide +kernel
          exact hall j (List.mem_range.1 hj)
theorem one_back {s A : ByteArray} {t : Tok} {p : Nat} (h : Real s t) (hA : p + t.s.size < A.size) (hx : A.extract p (p + t.s.size) = t.s) (hb : isBlank (byN A (p + t.s.size)) = true) : oneR A p = (⟨t.kind, t.s, t.w, t.n, p⟩, 0) := by
  have hz := h.size
  have hbyte : ∀ j, j < t.s.size → byN A (p + j) = byN s (t.at_ + j) := fun j hj => by
    have h1 := byN_extract A p (p + t.s.size) j (by omega)
    rw [hx, h.byte j hj] at h1
    exact h1.symm
  have h0 := hbyte 0 (by omega)
  rw [Nat.add_zero, Nat.add_zero] at h0
  have h2 := h.2
  have htx := h.text
  have hlt := h.1
  cases hw : isWrd (byN s t.at_) with
  | true =>
    have hwb := wEnd_bounds s _ t.at_ rfl (Nat.le_of_lt hlt)
    have hts : t.s.size = wEnd s t.at_ - t.at_ := by
      have := congrArg (fun x : Tok × Int => x.1.s.size) h2
      unfold oneR at this
      rw [if_pos (show (isLet (byN s t.at_) || isDig (byN s t.at_)) = true from hw)] at this
      split at this <;> (simp only [ByteArray.size_extract] at this; omega)
    have hwA : wEnd A p = p + t.s.size := word_end A p t.s.size (fun j hj => by rw [hbyte j hj]; exact wEnd_all s _ t.at_ rfl (Nat.le_of_lt hlt) _ (by omega) (by omega)) (blank_not_word hb)
    have hws : wEnd s t.at_ = t.at_ + t.s.size := by omega
    unfold oneR at h2 ⊢
    rw [if_pos (show (isLet (byN s t.at_) || isDig (byN s t.at_)) = true from hw), hws, htx] at h2
    rw [if_pos (show (isLet (byN A p) || isDig (byN A p)) = true by rw [h0]; exact hw), hwA, hx, h0]
    split at h2
    · rename_i hd
      rw [if_pos hd]
      obtain ⟨k, S, W, N, a⟩ := t
      simp only [Prod.mk.injEq, Tok.mk.injEq] at h2 ⊢
      obtain ⟨⟨e1, _, e3, e4, _⟩, e6⟩ := h2
      exact ⟨⟨e1, trivial, e3, e4, trivial⟩, e6⟩
    · rename_i hd
      rw [if_neg hd]
      obtain ⟨k, S, W, N, a⟩ := t
      simp only [Prod.mk.injEq, Tok.mk.injEq, Nat.add_sub_cancel_left] at h2 ⊢
      obtain ⟨⟨e1, _, e3, e4, _⟩, e6⟩ := h2
      exact ⟨⟨e1, trivial, e3, e4, trivial⟩, e6⟩
  | false =>
    have hm := markN_le s t.at_ hlt
    unfold oneR at h2 ⊢
    rw [if_neg (by show ¬ isWrd (byN s t.at_) = true; rw [hw]; simp)] at h2
    rw [if_neg (by show ¬ isWrd (byN A p) = true; rw [h0, hw]; simp)]
    by_cases hn : markN s t.at_ = 0
    · rw [if_pos hn] at h2
      exact absurd (congrArg (·.2) h2) (show ¬ (4 : Int) = 0 by decide)
    · rw [if_neg hn] at h2
      have hts : t.s.size = markN s t.at_ := by
        have := congrArg (fun x : Tok × Int => x.1.s.size) h2
        simp only [ByteArray.size_extract] at this
        omega
      have e := mark_back (p := p) (A := A) hn hlt (by omega) (fun j hj => hbyte j (by omega)) (by rw [← hts]; exact hb)
      rw [e, if_neg hn, ← hts, hx]
      rw [← hts, htx] at h2
      obtain ⟨k, S, W, N, a⟩ := t
      simp only [Prod.mk.injEq, Tok.mk.injEq] at h2 ⊢
      obtain ⟨⟨e1, _, e3, e4, _⟩, _⟩ := h2
      exact ⟨⟨e1, trivial, e3, e4, trivial⟩, trivial⟩
end Go.Proofs.YtiodfenkbhlpdaaDoor
