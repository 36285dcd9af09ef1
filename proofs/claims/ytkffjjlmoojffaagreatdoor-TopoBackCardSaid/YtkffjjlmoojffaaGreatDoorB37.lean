/-
  WHAT IS PROVED HERE: a part of the proof of the claim's theorem: Ba; Bb; NetKn.
-/
import Derived.Test.YtkffjjlmoojffaaGreatDoorB14
import Derived.Lib.Join
import Derived.Test.YtkffjjlmoojffaaGreatDoorB31
set_option linter.all false
namespace Go.Proofs.YtkffjjlmoojffaaGreatDoor
open Go.RowKit
def Real (s : ByteArray) (t : Tok) : Prop := t.at_ < s.size ∧ oneR s t.at_ = (t, 0)
theorem one_at (s : ByteArray) (a : Nat) : (oneR s a).1.at_ = a := by
  unfold oneR
  split
  · split <;> rfl
  · split <;> rfl
theorem Real.of {s : ByteArray} {a : Nat} (h : a < s.size) (h0 : (oneR s a).2 = 0) : Real s (oneR s a).1 := by
  refine ⟨by rw [one_at]; exact h, ?_⟩
  rw [one_at]
  exact Prod.ext rfl h0
theorem Real.size {s : ByteArray} {t : Tok} (h : Real s t) : 1 ≤ t.s.size ∧ t.at_ + t.s.size ≤ s.size := by
  have := oneR_size s t.at_ h.1 (by rw [h.2])
  rwa [h.2] at this
theorem ext_size (s : ByteArray) (a b : Nat) (h1 : a ≤ b) (h2 : b ≤ s.size) : s.extract a (a + (s.extract a b).size) = s.extract a b := by
  rw [ByteArray.size_extract]
  congr 1
  omega
theorem Real.text {s : ByteArray} {t : Tok} (h : Real s t) : s.extract t.at_ (t.at_ + t.s.size) = t.s := by
  have hb := wEnd_bounds s _ t.at_ rfl (Nat.le_of_lt h.1)
  have hm := markN_le s t.at_ h.1
  have h2 := h.2
  have hs := congrArg (fun x : Tok × Int => x.1.s) h2
  simp only at hs
  rw [← hs]
  have h0 : (oneR s t.at_).2 = 0 := by rw [h2]
  generalize t.at_ = a at hb hm h0 ⊢
  unfold oneR at h0 ⊢
  split
  · split
    · exact ext_size s a _ hb.1 hb.2
    · exact ext_size s a _ hb.1 hb.2
  · rename_i hw
    rw [if_neg hw] at h0
    split
    · rename_i h4
      rw [if_pos h4] at h0
      exact absurd h0 (show ¬ (4 : Int) = 0 by decide)
    · exact ext_size s a _ (by omega) hm
theorem Real.byte {s : ByteArray} {t : Tok} (h : Real s t) (j : Nat) (hj : j < t.s.size) : byN t.s j = byN s (t.at_ + j) := by
  have h2 := byN_extract s t.at_ (t.at_ + t.s.size) j (by omega)
  rwa [h.text] at h2
theorem fit_iff (s : ByteArray) (a : Nat) (m : ByteArray) : fitB s a m = true ↔ a + m.size ≤ s.size ∧ ∀ i, i < m.size → byN s (a + i) = byN m i := by
  unfold fitB
  rw [decide_eq_true_eq]
  constructor
  · rintro ⟨h1, h2⟩
    refine ⟨h1, fun i hi => ?_⟩
    have := byN_extract s a (a + m.size) i (by omega)
    rw [h2] at this
    exact this.symm
  · rintro ⟨h1, h2⟩
    refine ⟨h1, ?_⟩
    apply ByteArray.ext_getElem
    · rw [ByteArray.size_extract]; omega
    · intro i hi hi'
      have e1 : byN (s.extract a (a + m.size)) i = ((s.extract a (a + m.size))[i]).toNat := byN_at hi
      have e2 : byN m i = (m[i]).toNat := byN_at hi'
      rw [byN_extract s a (a + m.size) i (by omega), h2 i hi', e2] at e1
      exact (UInt8.toNat_inj.1 e1).symm
theorem blank_not_word {c : Nat} (h : isBlank c = true) : isWrd c = false := by
  unfold isBlank at h
  rw [decide_eq_true_eq] at h
  unfold isWrd isLet isDig
  rcases h with rfl | rfl | rfl <;> decide
theorem word_end (s : ByteArray) (p : Nat) : ∀ n, (∀ j, j < n → isWrd (byN s (p + j)) = true) → isWrd (byN s (p + n)) = false → wEnd s p = p + n := by
  intro n
  induction n generalizing p with
  | zero =>
    intro _ h
    by_cases hlt : p < s.size
    · exact wrd_stop hlt h
    · exact wEnd_past hlt
  | succ n ih =>
    intro h1 h2
    have h0 := h1 0 (by omega)
    have hlt : p < s.size := by
      rcases Nat.lt_or_ge p s.size with g | g
      · exact g
      · rw [Nat.add_zero, byN_past g] at h0; exact absurd h0 (by decide)
    rw [wrd_go hlt h0, ih (p + 1) (fun j hj => by rw [show p + 1 + j = p + (j + 1) by omega]; exact h1 (j + 1) (by omega)) (by rw [show p + 1 + n = p + (n + 1) by omega]; exact h2)]
    omega
theorem long_blank (k i : Nat) (hk : k < 11) (hi : i < (longAt k).size) : isBlank (byN (longAt k) i) = false := by
  have hall : ∀ k : Nat, k < 11 → ∀ i : Nat, i < 3 → i < (longAt k).size → isBlank (byN (longAt k) i) = false := by decide +kernel
  exact hall k hk i (by have := (long_size k hk).2; omega) hi
theorem long_first (k : Nat) (hk : k < 11) : ¬ byN (longAt k) 0 = 47 := by
  have hall : ∀ k : Nat, k < 11 → ¬ byN (longAt k) 0 = 47 := by decide +kernel
  exact hall k hk
theorem Real.first {s : ByteArray} {t : Tok} (h : Real s t) : isBlank (byN t.s 0) = false ∧ (byN t.s 0 = 47 → t.s.size = 1) := by
  have hz := h.size
  have hb := h.byte 0 (by omega)
  rw [Nat.add_zero] at hb
  have h2 := h.2
  cases hw : isWrd (byN s t.at_) with
  | true =>
    refine ⟨?_, fun e => ?_⟩
    · rw [hb]
      cases hbl : isBlank (byN s t.at_) with
      | false => rfl
      | true => rw [blank_not_word hbl] at hw; cases hw
    · rw [← hb, e] at hw
      exact absurd hw (by decide)
  | false =>
    unfold oneR at h2
    rw [if_neg (by show ¬ isWrd (byN s t.at_) = true; rw [hw]; simp)] at h2
    by_cases h0 : markN s t.at_ = 0
    · rw [if_pos h0] at h2
      exact absurd (congrArg (·.2) h2) (show ¬ (4 : Int) = 0 by decide)
    · rw [if_neg h0] at h2
      have hts : t.s.size = markN s t.at_ := by
        have hm := markN_le s t.at_ h.1
        have := congrArg (fun x : Tok × Int => x.1.s.size) h2
        simp only [ByteArray.size_extract] at this
        omega
      cases hf : (List.range 11).find? (fun j => fitB s t.at_ (longAt j)) with
      | some j =>
        obtain ⟨h1, h3, _⟩ := List.find?_range_eq_some.1 hf
        have h3 := List.mem_range.1 h3
        have hl := ((fit_iff s _ _).1 h1).2 0 (by have := (long_size j h3).1; omega)
        rw [Nat.add_zero] at hl
        rw [hb, hl]
        exact ⟨long_blank j 0 h3 (by have := (long_size j h3).1; omega), fun e => absurd e (long_first j h3)⟩
      | none =>
        have hno : ∀ i, i < 11 → fitB s t.at_ (longAt i) = false := fun i hi => by have := List.find?_range_eq_none.1 hf i hi; simpa using this
        have e := mark_short hno
        cases hsb : shortB (byN s t.at_) with
        | false => rw [hsb] at e; exact absurd e h0
        | true =>
          rw [hsb, if_pos rfl] at e
          refine ⟨?_, fun _ => by rw [hts, e]⟩
          rw [hb]
          unfold shortB at hsb
          rw [List.any_eq_true] at hsb
          obtain ⟨j, hj, ej⟩ := hsb
          rw [decide_eq_true_eq] at ej
          rw [← ej]
          have hall : ∀ j : Nat, j < 21 → isBlank (byN shortT j) = false := by decide +kernel
          exact hall j (List.mem_range.1 hj)
end Go.Proofs.YtkffjjlmoojffaaGreatDoor
namespace Go.Proofs.YtkffjjlmoojffaaGreatDoor
open Go.RowKit
theorem in_text {A : ByteArray} {q : Nat} {m : ByteArray} (h : fitB A q m = true) : q + m.size ≤ A.size ∧ ∀ i, i < m.size → byN A (q + i) = byN m i := (fit_iff A q m).1 h
theorem fit_mid (pre m post : ByteArray) : fitB (pre ++ m ++ post) pre.size m = true := by
  unfold fitB
  rw [decide_eq_true_eq]
  refine ⟨by simp only [ByteArray.size_append]; omega, ?_⟩
  rw [ByteArray.append_assoc]
  have h1 : (pre ++ (m ++ post)).extract (pre.size + 0) (pre.size + m.size) = (m ++ post).extract 0 m.size := ByteArray.extract_append_size_add
  rw [Nat.add_zero] at h1
  rw [h1]
  exact ByteArray.extract_append_eq_left rfl
theorem app_nil (x : ByteArray) : x ++ (⟨#[]⟩ : ByteArray) = x := by apply ByteArray.ext; simp
theorem nil_app (x : ByteArray) : (⟨#[]⟩ : ByteArray) ++ x = x := by apply ByteArray.ext; simp
end Go.Proofs.YtkffjjlmoojffaaGreatDoor
namespace Go.Proofs.YtkffjjlmoojffaaGreatDoor
def wEndF (s : ByteArray) : Nat → Nat → Nat
  | 0, a => a
  | f + 1, a => if a < s.size then (if (isLet (byN s a) || isDig (byN s a)) = true then wEndF s f (a + 1) else a) else a
theorem wEndF_eq (s : ByteArray) : ∀ (f a : Nat), s.size - a ≤ f → wEnd s a = wEndF s f a
  | 0, a, h => wEnd_past (by omega)
  | f + 1, a, h => by
    unfold wEndF
    by_cases h1 : a < s.size
    · rw [if_pos h1]
      by_cases hb : (isLet (byN s a) || isDig (byN s a)) = true
      · rw [if_pos hb, wEnd_go h1 hb]; exact wEndF_eq s f (a + 1) (by omega)
      · rw [if_neg hb]; exact wEnd_stop h1 (by simpa using hb)
    · rw [if_neg h1]; exact wEnd_past h1
def skipF (s : ByteArray) : Nat → Nat → Nat
  | 0, k => skipN s k
  | f + 1, k => if k < s.size then (if isBlank (byN s k) = true then skipF s f (k + 1) else if isRem s k = true then skipN s k else k) else k
theorem skipF_eq (s : ByteArray) : ∀ (f k : Nat), skipN s k = skipF s f k
  | 0, k => rfl
  | f + 1, k => by
    unfold skipF
    by_cases h1 : k < s.size
    · rw [if_pos h1]
      by_cases hb : isBlank (byN s k) = true
      · rw [if_pos hb, skip_blank h1 hb]; exact skipF_eq s f (k + 1)
      · rw [if_neg hb]
        by_cases hr : isRem s k = true
        · rw [if_pos hr]
        · rw [if_neg hr]; exact skip_stop h1 (by simpa using hb) (by simpa using hr)
    · rw [if_neg h1]; exact skip_end h1
def plainNum (s : ByteArray) : Bool := (wAt s).isNone && !Lib.hasPrefix s.data.toList [48, 120] && !s.data.toList.isEmpty && s.data.toList.all (fun c => decide (digV (c.toNat : Int) 10 < 10)) && decide (valOf 10 s.data.toList < 340282366920938463463374607431768211456)
noncomputable def numP (s : ByteArray) : Int × Nat × Int := if plainNum s = true then (0, valOf 10 s.data.toList, 0) else numR s
theorem numP_eq (s : ByteArray) : numR s = numP s := by
  unfold numP
  by_cases h : plainNum s = true
  · rw [if_pos h]
    unfold plainNum at h
    simp only [Bool.and_eq_true, Option.isNone_iff_eq_none, Bool.not_eq_true', List.isEmpty_eq_false_iff, List.all_eq_true, decide_eq_true_eq] at h
    obtain ⟨⟨⟨⟨h1, h2⟩, h3⟩, h4⟩, h5⟩ := h
    have hp : parseS s = (valOf 10 s.data.toList, 0) := by
      unfold parseS
      rw [if_neg (by rw [h2]; decide)]
      exact parseR_ok 10 _ h3 (fun c hc => h4 c hc) (by
        have : (2 : Nat) ^ 128 = 340282366920938463463374607431768211456 := by decide
        omega)
    unfold numR
    rw [h1]
    simp only
    rw [hp, if_pos rfl]
  · rw [if_neg h]
noncomputable def oneP (s : ByteArray) (a : Nat) : Tok × Int :=
  if (isLet (byN s a) || isDig (byN s a)) = true then
    (if isDig (byN s a) = true then (⟨2, s.extract a (wEndF s s.size a), (numP (s.extract a (wEndF s s.size a))).1, (numP (s.extract a (wEndF s s.size a))).2.1, a⟩, (numP (s.extract a (wEndF s s.size a))).2.2)
     else (⟨1, s.extract a (wEndF s s.size a), 0, 0, a⟩, if 16 < wEndF s s.size a - a then 3 else 0))
  else if markN s a = 0 then (⟨0, ByteArray.empty, 0, 0, a⟩, 4) else (⟨3, s.extract a (a + markN s a), 0, 0, a⟩, 0)
theorem oneP_eq (s : ByteArray) (a : Nat) : oneR s a = oneP s a := by
  unfold oneR oneP
  rw [← wEndF_eq s s.size a (by omega), ← numP_eq]
noncomputable def lexP (s : ByteArray) : Nat → Nat → List Tok → List Tok × Nat × Int
  | 0, _, acc => (acc ++ [endTok s], 0, 0)
  | f + 1, a, acc => if a < s.size then (if (oneP s a).2 = 0 then lexP s f (skipF s s.size (a + (oneP s a).1.s.size)) (acc ++ [(oneP s a).1]) else ([], a, (oneP s a).2)) else (acc ++ [endTok s], 0, 0)
theorem lexP_eq (s : ByteArray) : ∀ (f a : Nat) (acc : List Tok), lexN s f a acc = lexP s f a acc
  | 0, _, _ => rfl
  | f + 1, a, acc => by
    unfold lexP
    by_cases h : a < s.size
    · rw [if_pos h, ← oneP_eq]
      by_cases h0 : (oneR s a).2 = 0
      · rw [lexN_go h h0, if_pos h0, ← skipF_eq]; exact lexP_eq s f _ _
      · rw [lexN_bad h h0, if_neg h0]
    · rw [if_neg h, lexN_end h]
theorem lexR_F (s : ByteArray) (h : s.size ≤ 65536) : lexR s = lexP s s.size (skipF s s.size 0) [] := by
  unfold lexR
  rw [if_neg (by omega), lexP_eq, ← skipF_eq]
def tokB (t u : Tok) : Bool := decide (t.kind = u.kind) && decide (t.s = u.s) && decide (t.w = u.w) && decide (t.n = u.n) && decide (t.at_ = u.at_)
theorem tokB_eq {t u : Tok} (h : tokB t u = true) : t = u := by
  obtain ⟨a, b, c, d, e⟩ := t
  obtain ⟨a2, b2, c2, d2, e2⟩ := u
  unfold tokB at h
  simp only [Bool.and_eq_true, decide_eq_true_eq] at h
  obtain ⟨⟨⟨⟨rfl, rfl⟩, rfl⟩, rfl⟩, rfl⟩ := h
  rfl
def toksB : List Tok → List Tok → Bool
  | [], [] => true
  | t :: l, u :: m => tokB t u && toksB l m
  | _, _ => false
theorem toksB_eq : ∀ {l m : List Tok}, toksB l m = true → l = m
  | [], [], _ => rfl
  | [], _ :: _, h => by cases h
  | _ :: _, [], h => by cases h
  | t :: l, u :: m, h => by
    unfold toksB at h
    rw [Bool.and_eq_true] at h
    rw [tokB_eq h.1, toksB_eq h.2]
theorem lex_is {s : ByteArray} {l : List Tok} (hz : s.size ≤ 65536) (h1 : toksB (lexP s s.size (skipF s s.size 0) []).1 l = true) (h2 : (lexP s s.size (skipF s s.size 0) []).2.2 = 0) : (lexR s).1 = l ∧ (lexR s).2.2 = 0 := by
  rw [lexR_F s hz]
  exact ⟨toksB_eq h1, h2⟩
def netA : ByteArray := ⟨#[115, 119, 105, 116, 99, 104, 32, 97, 32, 123, 32, 49, 59, 32, 50, 59, 32, 125, 32, 115, 119, 105, 116, 99, 104, 32, 98, 32, 123, 32, 49, 59, 32, 125, 32, 108, 105, 110, 107, 32, 97, 58, 50, 32, 98, 58, 49, 59]⟩
def tokA' : List Tok := [⟨1, ⟨#[115, 119, 105, 116, 99, 104]⟩, 0, 0, 0⟩, ⟨1, ⟨#[97]⟩, 0, 0, 7⟩, ⟨3, ⟨#[123]⟩, 0, 0, 9⟩, ⟨2, ⟨#[49]⟩, 0, 1, 11⟩, ⟨3, ⟨#[59]⟩, 0, 0, 12⟩, ⟨2, ⟨#[50]⟩, 0, 2, 14⟩, ⟨3, ⟨#[59]⟩, 0, 0, 15⟩, ⟨3, ⟨#[125]⟩, 0, 0, 17⟩, ⟨1, ⟨#[115, 119, 105, 116, 99, 104]⟩, 0, 0, 19⟩, ⟨1, ⟨#[98]⟩, 0, 0, 26⟩, ⟨3, ⟨#[123]⟩, 0, 0, 28⟩, ⟨2, ⟨#[49]⟩, 0, 1, 30⟩, ⟨3, ⟨#[59]⟩, 0, 0, 31⟩, ⟨3, ⟨#[125]⟩, 0, 0, 33⟩, ⟨1, ⟨#[108, 105, 110, 107]⟩, 0, 0, 35⟩, ⟨1, ⟨#[97]⟩, 0, 0, 40⟩, ⟨3, ⟨#[58]⟩, 0, 0, 41⟩, ⟨2, ⟨#[50]⟩, 0, 2, 42⟩, ⟨1, ⟨#[98]⟩, 0, 0, 44⟩, ⟨3, ⟨#[58]⟩, 0, 0, 45⟩, ⟨2, ⟨#[49]⟩, 0, 1, 46⟩, ⟨3, ⟨#[59]⟩, 0, 0, 47⟩, ⟨0, ByteArray.empty, 0, 0, 48⟩]
theorem lexA : (lexR netA).1 = tokA' ∧ (lexR netA).2.2 = 0 := lex_is (by decide +kernel) (by decide +kernel) (by decide +kernel)
def netB : ByteArray := ⟨#[115, 119, 105, 116, 99, 104, 32, 97, 32, 123, 32, 49, 59, 32, 49, 59, 32, 125]⟩
def tokB' : List Tok := [⟨1, ⟨#[115, 119, 105, 116, 99, 104]⟩, 0, 0, 0⟩, ⟨1, ⟨#[97]⟩, 0, 0, 7⟩, ⟨3, ⟨#[123]⟩, 0, 0, 9⟩, ⟨2, ⟨#[49]⟩, 0, 1, 11⟩, ⟨3, ⟨#[59]⟩, 0, 0, 12⟩, ⟨2, ⟨#[49]⟩, 0, 1, 14⟩, ⟨3, ⟨#[59]⟩, 0, 0, 15⟩, ⟨3, ⟨#[125]⟩, 0, 0, 17⟩, ⟨0, ByteArray.empty, 0, 0, 18⟩]
theorem lexB : (lexR netB).1 = tokB' ∧ (lexR netB).2.2 = 0 := lex_is (by decide +kernel) (by decide +kernel) (by decide +kernel)
theorem all_a : ∃ n k, allM (lexR netA).1 = .ok n k ∧ n = (dAll tokA').1 := by
  have hT := lexR_tl netA lexA.2
  have h := ag_all hT
  rw [lexA.1] at h ⊢
  cases hr : allM tokA' with
  | ok n k => rw [hr] at h; exact ⟨n, k, rfl, h.2.2.2⟩
  | bad p e =>
    rw [hr] at h
    exact absurd h.1 (by rw [show (dAll tokA').2.bad = false by decide +kernel]; decide)
theorem all_b : allM (lexR netB).1 = .bad 14 8 := by
  have hT := lexR_tl netB lexB.2
  have h := ag_all hT
  rw [lexB.1] at h ⊢
  cases hr : allM tokB' with
  | ok n k =>
    rw [hr] at h
    exact absurd h.1 (by rw [show (dAll tokB').2.bad = true by decide +kernel]; decide)
  | bad p e =>
    rw [hr] at h
    have h1 : (dAll tokB').2.p = 14 := by decide +kernel
    have h2 : (dAll tokB').2.e = 8 := by decide +kernel
    obtain ⟨_, a2, a3⟩ := h
    rw [← a2, ← a3, h1, h2]
theorem next_a : thereF (dAll tokA').1 ⟨0, 2⟩ = true ∧ nextV true (dAll tokA').1.links ⟨0, 2⟩ = (⟨1, 1⟩, true, true) ∧ (dAll tokA').1.links.length = 1 ∧ (dAll tokA').1.names.length = 2 ∧ (dAll tokA').1.ports.length = 2 := by decide +kernel
theorem line_b : lineOf netB 14 = 1 ∧ colOf netB 14 = 15 := by decide +kernel
end Go.Proofs.YtkffjjlmoojffaaGreatDoor
